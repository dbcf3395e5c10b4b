/-
  When two contexts, or two capabilities, are the same.
-/
import Derived.Test.YtnbfjaocakghkaaDoorRegWp
namespace Go.Proofs.YtnbfjaocakghkaaDoor
open Go.RowKit

theorem extract_cap {xs : Array Value} {c : C3} {o : Nat} (h : ∀ j, j < 3 → xs[o + j]? = (capL c)[j]?) : xs.extract o (o + 3) = (capL c).toArray := by
  refine Array.ext_getElem? fun j => ?_
  have hlen : o + 3 ≤ xs.size := by
    have := h 2 (by omega)
    have h2 : xs[o + 2]? = some (.int .u64 (c.2.2 : Int)) := this
    have := (Array.getElem?_eq_some_iff.1 h2).1
    omega
  rcases Nat.lt_or_ge j 3 with hj | hj
  · rw [Array.getElem?_extract, if_pos (by omega), h j hj, List.getElem?_toArray]
  · rw [Array.getElem?_eq_none (by simp; omega), Array.getElem?_eq_none (by simp [capL]; omega)]
theorem ctxA_at (R : Nat → C3) {i : Nat} (hi : i < 33) {j : Nat} (hj : j < 3) : (ctxA R)[3 * i + j]? = (capL (R i))[j]? := by
  unfold ctxA ctxL
  rw [List.getElem?_toArray]
  exact ctxN_at R i j hj 33 hi
theorem extract_reg (R : Nat → C3) {i : Nat} (hi : i < 32) : ((ctxA R).extract 0 96).extract (i * 3) (i * 3 + 3) = (capL (R i)).toArray := extract_cap fun j hj => by
  rw [Array.getElem?_extract, if_pos (by rw [ctxA_size]; omega), Nat.zero_add, Nat.mul_comm i 3]
  exact ctxA_at R (by omega) hj
theorem extract_pcc (R : Nat → C3) : (ctxA R).extract 96 99 = (capL (R 32)).toArray := extract_cap (o := 96) fun j hj => ctxA_at R (i := 32) (by omega) hj
theorem part_row {e : TypeId} {d : TypeDesc} (hu : Tryd.prog.underlying e = some d) (hd : d.isRow = true) {k : Nat} (hi : (Tryd.prog.info? e).map (·.size) = some k) (xs : Array Value) (o : Nat) (W : World) : (part e xs o).run Tryd.prog W = .ok (.agg (xs.extract o (o + k))) W := by
  cases hq : Tryd.prog.info? e with
  | none => simp [hq] at hi
  | some i =>
    have hs : i.size = k := by simpa [hq] using hi
    have hagg : (isAgg e).run Tryd.prog W = .ok true W := by
      unfold isAgg
      rw [Sem.run_bind, run_underlying hu W]
      cases d <;> simp_all
    simp [part, Sem.run_bind, hagg, sizeOf, typeInfo, hq, hs]
theorem eq_cap {t : TypeId} (hT : IsCapT t) (d : Nat) (c e : C3) (W : World) : (Op.equalIn (d + 2) t (capV c) (capV e)).run Tryd.prog W = .ok (decide (c = e)) W := by
  obtain ⟨t1, m1, a1⟩ := c
  obtain ⟨t2, m2, a2⟩ := e
  unfold capV
  rcases hT with rfl | rfl
  all_goals
    by_cases h1 : t1 = t2 <;> by_cases h2 : (m1 : Int) = (m2 : Int) <;> by_cases h3 : (a1 : Int) = (a2 : Int) <;> simp [go_sem, h1, h2, h3] <;> omega
set_option maxRecDepth 100000 in
theorem items_cap {e : TypeId} (hT : IsCapT e) (d : Nat) (R S : Nat → C3) (W : World) : ∀ is : List Nat, (∀ i ∈ is, i < 32) → (Op.eqItems (d + 2) e 3 ((ctxA R).extract 0 96) ((ctxA S).extract 0 96) is).run Tryd.prog W = .ok (decide (∀ i ∈ is, R i = S i)) W
  | [], _ => by simp [Op.eqItems]
  | i :: is, h => by
    have hi := h i (by simp)
    have ih := items_cap hT d R S W is (fun j hj => h j (by simp [hj]))
    obtain ⟨D, hu, hd⟩ := cap_row hT
    have he := eq_cap hT d (R i) (S i) W
    simp only [Op.eqItems, Sem.run_bind, part_row hu hd (cap_info hT), extract_reg R hi, extract_reg S hi, Result.andThen_ok]
    rw [show Value.agg (capL (R i)).toArray = capV (R i) from rfl, show Value.agg (capL (S i)).toArray = capV (S i) from rfl, he]
    simp only [Result.andThen_ok]
    by_cases hx : R i = S i
    · rw [show decide (R i = S i) = true from decide_eq_true hx]
      simp only [Bool.not_true, Bool.false_eq_true, if_false]
      rw [ih]
      congr 1
      exact decide_eq_decide.mpr (by simp [hx])
    · rw [show decide (R i = S i) = false from decide_eq_false hx]
      simp only [Bool.not_false, if_true, Sem.run_pure]
      congr 1
      exact (decide_eq_false (fun hh => hx (hh i (by simp)))).symm
theorem two_fields {fs : List Field} {a b : TypeId} {n m : Nat} {p q : String} (h : fs.map (fun f => (f.type, f.offset, f.name)) = [(a, n, p), (b, m, q)]) : ∃ f0 f1 : Field, fs = [f0, f1] ∧ f0.type = a ∧ f0.offset = n ∧ f0.name = p ∧ f1.type = b ∧ f1.offset = m ∧ f1.name = q := by
  match fs, h with
  | [f0, f1], h =>
    simp only [List.map_cons, List.map_nil, List.cons.injEq, Prod.mk.injEq, and_true] at h
    exact ⟨f0, f1, rfl, h.1.1, h.1.2.1, h.1.2.2, h.2.1, h.2.2.1, h.2.2.2⟩
set_option maxRecDepth 100000 in
theorem eq_ctx_of {t ra ct : TypeId} (hC : IsCapT ct) (hra : Tryd.prog.underlying ra = some (.array 32 ct)) (hfs : (Tryd.prog.fieldsOf t).toList.map (fun f => (f.type, f.offset, f.name)) = [(ra, 0, "Regs"), (ct, 96, "Pcc")]) (ht : Tryd.prog.underlying t = some (.struct (Tryd.prog.fieldsOf t))) (hp : Tryd.prog.stoodInHeld t = false) (hi : (Tryd.prog.info? ra).map (·.size) = some 96) (h3 : Tryd.prog.cellsOf ct = 3)
    (R S : Nat → C3) (W : World) : (Op.equalIn 10000 t (.agg (ctxA R)) (.agg (ctxA S))).run Tryd.prog W = .ok (decide (∀ i ∈ List.range 33, R i = S i)) W := by
  obtain ⟨f0, f1, hf, h01, h02, h03, h11, h12, h13⟩ := two_fields hfs
  obtain ⟨D, hu, hd⟩ := cap_row hC
  obtain ⟨ii, hii⟩ := info_of_underlying hu
  rw [run_equalIn_struct W 9999 t _ _ ht hp, hf]
  have hr := items_cap hC 9996 R S W (List.range 32) (fun i hi => List.mem_range.1 hi)
  have ha := run_equalIn_array (P := Tryd.prog) W 9998 ((ctxA R).extract 0 96) ((ctxA S).extract 0 96) hra hii
  rw [h3, hr] at ha
  have hc := eq_cap hC 9997 (R 32) (S 32) W
  have n0 : (f0.name ≠ "_") = True := eq_true (by rw [h03]; decide)
  have n1 : (f1.name ≠ "_") = True := eq_true (by rw [h13]; decide)
  simp only [Op.eqFields, n0, n1, if_true, Sem.run_bind, h01, h02, h11, h12, part_row hra rfl hi, Nat.zero_add, Result.andThen_ok, ha]
  by_cases hx : ∀ i ∈ List.range 32, R i = S i
  · rw [decide_eq_true hx]
    simp only [Bool.not_true, Bool.false_eq_true, if_false, Sem.run_bind, part_row hu hd (cap_info hC), Result.andThen_ok, Nat.reduceAdd, extract_pcc]
    rw [show Value.agg (capL (R 32)).toArray = capV (R 32) from rfl, show Value.agg (capL (S 32)).toArray = capV (S 32) from rfl, hc]
    simp only [Result.andThen_ok]
    have e : decide (∀ i ∈ List.range 33, R i = S i) = decide (R 32 = S 32) := decide_eq_decide.mpr ⟨fun h => h 32 (List.mem_range.2 (by omega)), fun h i hi => by
      have hi := List.mem_range.1 hi
      rcases Nat.lt_or_ge i 32 with hl | hl
      · exact hx i (List.mem_range.2 hl)
      · obtain rfl : i = 32 := by omega
        exact h⟩
    rw [e]
    cases decide (R 32 = S 32) <;> simp
  · rw [decide_eq_false hx, decide_eq_false (show ¬ ∀ i ∈ List.range 33, R i = S i from fun h => hx (fun i hi => h i (List.mem_range.2 (by have := List.mem_range.1 hi; omega))))]
    simp
theorem eq_ctx {t : TypeId} (hT : IsCtxT t) (R S : Nat → C3) (W : World) : (Op.equalIn 10000 t (.agg (ctxA R)) (.agg (ctxA S))).run Tryd.prog W = .ok (decide (∀ i ∈ List.range 33, R i = S i)) W := by
  rcases hT with rfl | rfl
  · exact eq_ctx_of cap_p Tryd.underlying25 (by kernel_rfl) (by kernel_rfl) (by kernel_rfl) (by kernel_rfl) (by kernel_rfl) R S W
  · exact eq_ctx_of cap_d Tryd.underlying30 (by kernel_rfl) (by kernel_rfl) (by kernel_rfl) (by kernel_rfl) (by kernel_rfl) R S W
/-- As a walk meets it. -/
theorem eql_ctx {t : TypeId} (hT : IsCtxT t) (R S : Nat → C3) (W : World) : (binOp .eql t (.agg (ctxA R)) (.agg (ctxA S))).run Tryd.prog W = .ok (.bool (decide (∀ i ∈ List.range 33, R i = S i))) W := by
  rw [run_eql_struct, eq_ctx hT]
  rfl
theorem eql_same {t : TypeId} (hT : IsCtxT t) (R : Nat → C3) (W : World) : (binOp .eql t (.agg (ctxA R)) (.agg (ctxA R))).run Tryd.prog W = .ok (.bool true) W := by
  rw [eql_ctx hT]
  simp
theorem eqi_same {t : TypeId} (hT : IsCtxT t) (R : Nat → C3) (W : World) : (Op.equalIn 10000 t (.agg (ctxA R)) (.agg (ctxA R))).run Tryd.prog W = .ok true W := by
  rw [eq_ctx hT]
  simp
theorem eqi_cap {t : TypeId} (hT : IsCapT t) (c : C3) (W : World) : (Op.equalIn 10000 t (capV c) (capV c)).run Tryd.prog W = .ok true W := by
  rw [eq_cap hT 9998]
  simp
end Go.Proofs.YtnbfjaocakghkaaDoor
