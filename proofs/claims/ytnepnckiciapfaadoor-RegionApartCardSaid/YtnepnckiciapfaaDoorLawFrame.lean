/-
  The frame of every law of this seat: if the call answers true and turns nothing that was there, for all arguments that can be read, then the law's row holds. No program text here.
-/
import Derived.Test.YtnepnckiciapfaaDoorRows
import Derived.WalkKit
import Derived.ProofKit
import Derived.OpenShut
namespace Go.Proofs.YtnepnckiciapfaaDoor.Frame
open Go.ChangeShapes Go.WideShapes Go.ChangeAt Go.RowKit

theorem own : ownKnob Tryd.prog.godebug = none := by kernel_rfl
theorem laidOut : laidOutB Tryd.prog = true := by kernel_rfl

section
variable {H : Type} {enc : TypeId × Value → H} {P : Program}
theorem below_all (hl : laidOutB P = true) {W W' : World} (hb : Below W.heap.size W W') :
    ∀ (ts : List TypeId) (vs : List Value) (ds : List (DataW H)) (ps : List MemPlace), ts.all (fun t => P.readableRec t && decide (t < P.types.size)) = true →
      DataW.TrodAll enc P W 0 (fun _ => true) true ts vs ds ps → (∀ x ∈ ps, x.block < W.heap.size) → DataW.TrodAll enc P W' 0 (fun b => decide (b < W.heap.size)) true ts vs ds ps
  | [], [], [], ps, _, h, _ => h
  | t :: ts, v :: vs, d :: ds, ps, hr, ⟨p, q, h1, h2, e⟩, hlt => by
    simp only [List.all_cons, Bool.and_eq_true, decide_eq_true_eq] at hr
    exact ⟨p, q, Below.trod hl hr.1.1 hr.1.2 h1 hb (fun x hx => hlt x (by rw [e]; simp [hx])),
      below_all hl hb ts vs ds q hr.2 h2 (fun x hx => hlt x (by rw [e]; simp [hx])), e⟩
theorem trodAll_length {w : World} {base : Nat} {spare : Nat → Bool} {held : Bool} :
    ∀ (ts : List TypeId) (vs : List Value) (ds : List (DataW H)) (ps : List MemPlace), DataW.TrodAll enc P w base spare held ts vs ds ps → ds.length = ts.length
  | [], [], [], _, _ => rfl
  | _ :: ts, _ :: vs, _ :: ds, _, ⟨_, q, _, h2, _⟩ => by simp [trodAll_length ts vs ds q h2]
end

/-- A law's call, of all arguments that can be read: true, and nothing that was there turns. -/
def Walks (f : FuncId) (fn : Func) : Prop :=
  ∀ (H : Type) (enc : TypeId × Value → H) (W : World) (base : Nat) (args : Array Value) (ds : List (DataW H)) (ps : List MemPlace),
    (∀ (j : Nat) t v, fn.params[j]? = some t → args[j]? = some v → Value.okWide Tryd.prog W .any base t v) →
    DataW.TrodAll enc Tryd.prog W 0 (fun _ => true) true fn.params.toList args.toList ds ps →
    Calls Tryd.prog f args W fun e W' => e = .returned (.bool true) ∧ Below W.heap.size W W'

set_option maxRecDepth 100000 in
theorem lift (os : Os) (started : os.Started) (H : Type) (enc : TypeId × Value → H) (f : FuncId) (fn : Func) (s : ChangeSpec) (tb : TypeId)
    (noInit : Tryd.checked.prog.inits.idxOf? f = none) (hfn : Tryd.prog.funcs[f]? = some fn) (hb : Tryd.prog.underlying tb = some .bool) (hres : fn.resultTypes = #[tb]) (hvars : s.vars = [])
    (hread : fn.params.toList.all (fun t => Tryd.prog.readableRec t && decide (t < Tryd.prog.types.size)) = true)
    (hspec : ∀ ds : List (DataW H), ds.length = fn.params.toList.length → (s.fn H ds).results = [.lit (.bool true)] ∧ (s.fn H ds).args = ds ∧ (s.fn H ds).vars = [])
    (witness : ∃ (w : World) (tape : Tape) (i : Input), w.os = os ∧ (w.forCall tape i).Shaped Tryd.checked.prog ∧ i.vars = [] ∧ Input.okWide Tryd.checked.prog (w.forCall tape i) .any w.heap.size f i ∧
      s.pre6 enc Tryd.checked.prog fn [] false (w.forCall tape i).memory i.args ∧ Assume.holds {} Tryd.checked.prog (lone (Frame.enter Tryd.checked.prog f i.args .normal) [] (w.forCall tape i)))
    (walk : Walks f fn) :
    ReturnsInHanded {} Tryd.checked os f .any (s.pre6 enc Tryd.prog fn [] false) (s.post enc Tryd.prog fn false true false false) := by
  refine returnsInHanded_of_change (C := Tryd.checked) own started noInit hfn witness ?_
  intro W base args ds gs before hval hW _ _
  have hW' := hW
  obtain ⟨p, q, hA, hV, rfl, hfz, hnd⟩ := hW
  have hlen := trodAll_length _ _ _ _ hA
  obtain ⟨rfl, rfl⟩ : gs = [] ∧ q = [] := by
    rw [hvars] at hV
    cases gs with
    | nil => exact ⟨rfl, hV⟩
    | cons g gs => exact absurd hV (by simp [DataW.TrodVars])
  obtain ⟨e1, e2, e3⟩ := hspec ds hlen
  refine (walk H enc W base args ds p hval hA).mono fun e W' ⟨he, bel⟩ => ?_
  subst he
  have hlt : ∀ x ∈ p, x.block < W.heap.size := fun x hx => hW'.lt x (by simp [hx])
  refine ⟨_, rfl, ds, [], p ++ [], [], p, [], hW', ?_, ?_, ?_, bel.frame _, fun h => by cases h⟩
  · rw [List.append_nil, e1, hres]
    exact trodAll_mk1 (shut_bool hb true)
  · rw [List.append_nil, e2]
    exact below_all laidOut bel _ _ _ _ hread hA hlt
  · rw [List.append_nil, e3, hvars]
    exact rfl

/-- One call behind the other. -/
theorem below_then {w a b : World} (h : Below w.heap.size w a) (k : Below a.heap.size a b) : Below w.heap.size w b := h.trans (k.mono h.size)

/-! arguments, opened -/
theorem list_of {α β : Type} (f : β → α) (p : β → Prop) : ∀ l : List α, (∀ i, i < l.length → ∃ z, l[i]? = some (f z) ∧ p z) → ∃ zs : List β, l = zs.map f ∧ ∀ z ∈ zs, p z
  | [], _ => ⟨[], rfl, by simp⟩
  | x :: l, h => by
    obtain ⟨z, hz, hp⟩ := h 0 (by simp)
    obtain ⟨zs, rfl, hzs⟩ := list_of f p l (fun i hi => by simpa using h (i + 1) (by simpa using hi))
    refine ⟨z :: zs, by simp at hz; simp [hz], ?_⟩
    intro y hy
    rcases List.mem_cons.1 hy with rfl | hy
    · exact hp
    · exact hzs y hy
section
variable {H : Type} {enc : TypeId × Value → H} {P : Program} {W : World} {base : Nat} {t e : TypeId} {k : IntKind} {n : Nat} {v : Value} {d : DataW H} {ps : List MemPlace}
/-- An array of integers by value. -/
theorem open_arr (ht : P.underlying t = some (.array n e)) (he : P.underlying e = some (.int k)) (hce : P.cellsOf e = 1) (hct : P.cellsOf t = n)
    (hv : Value.okWide P W .any base t v) (h : DataW.Trod enc P W 0 (fun _ => true) true t v d ps) :
    ∃ zs : List Int, v = .agg (zs.map (Value.int k)).toArray ∧ zs.length = n ∧ ∀ z ∈ zs, (Lit.int k z).wf = true := by
  obtain ⟨cs, rfl, hsz, _⟩ : ∃ cs, v = .agg cs ∧ cs.size = P.cellsOf t ∧ Row.okWide P W .any base t cs := by
    simpa [Value.okWide, ht] using hv
  obtain ⟨fuel, hf⟩ := h
  obtain ⟨xs, m, _, _, hl, hxl, hel⟩ := DataW.trod_array ht hf
  simp only [Value.cells] at hl hel
  obtain ⟨l⟩ := cs
  simp only [hct] at hl hsz
  have hln : l.length = n := hl
  obtain ⟨zs, hzs, hp⟩ := list_of (Value.int k) (fun z => (Lit.int k z).wf = true) l (fun i hi => by
    have hi' : i < n := by omega
    have := hel i hi'
    rw [hce, Nat.mul_one] at this
    have e1 : (l.drop i).take 1 = [l[i]] := by
      rw [List.drop_eq_getElem_cons hi]; rfl
    have e2 : i < xs.length := by omega
    rw [e1, List.getElem?_eq_getElem e2] at this
    obtain ⟨z, ez, _, hw⟩ := DataW.trod_int he this
    exact ⟨z, by rw [List.getElem?_eq_getElem hi]; simpa using ez, hw⟩)
  exact ⟨zs, by rw [hzs], by rw [hzs] at hln; simpa using hln, hp⟩
end
theorem arr2 {zs : List Int} (h : zs.length = 2) : ∃ a b, zs = [a, b] := by
  match zs, h with | [a, b], _ => exact ⟨a, b, rfl⟩
theorem arr3 {zs : List Int} (h : zs.length = 3) : ∃ a b c, zs = [a, b, c] := by
  match zs, h with | [a, b, c], _ => exact ⟨a, b, c, rfl⟩
theorem arr4 {zs : List Int} (h : zs.length = 4) : ∃ a b c d, zs = [a, b, c, d] := by
  match zs, h with | [a, b, c, d], _ => exact ⟨a, b, c, d, rfl⟩
theorem wf_i64 {x : Int} (h : (Lit.int .i64 x).wf = true) : -9223372036854775808 ≤ x ∧ x < 9223372036854775808 := by
  have := bounds_i64 h; omega
theorem wf_u64 {x : Int} (h : (Lit.int .u64 x).wf = true) : ∃ X : BitVec 64, x = (X.toNat : Int) := by
  have := bounds_u64 h
  refine ⟨BitVec.ofNat 64 x.toNat, ?_⟩
  rw [BitVec.toNat_ofNat, Nat.mod_eq_of_lt (by omega)]
  omega

/-! Values without pointers (integers, bools, strings, and structs and arrays of these): which cells a reading of them has. -/
/-- An integer of a kind (.inl k), a bool (.inr false), a string (.inr true). -/
abbrev Kd := IntKind ⊕ Bool
def Fit : Kd → Value → Prop
  | .inl k, c => ∃ z, c = .int k z ∧ (Lit.int k z).wf = true
  | .inr false, c => ∃ z, c = .bool z
  | .inr true, c => ∃ z : ByteArray, c = .string z ∧ z.size ≤ maxLen
def Fits : List Kd → List Value → Prop
  | [], [] => True
  | k :: ks, c :: cs => Fit k c ∧ Fits ks cs
  | _, _ => False
theorem Fits.append : ∀ {ks ls : List Kd} {cs es : List Value}, Fits ks cs → Fits ls es → Fits (ks ++ ls) (cs ++ es)
  | [], _, [], _, _, h => h
  | _ :: _, _, _ :: _, _, ⟨h1, h2⟩, h => ⟨h1, Fits.append h2 h⟩
theorem Fits.len : ∀ {ks : List Kd} {cs : List Value}, Fits ks cs → cs.length = ks.length
  | [], [], _ => rfl
  | _ :: _, _ :: _, ⟨_, h⟩ => by simp [Fits.len h]
def flatFields (P : Program) (g : TypeId → Option (List Kd)) : Nat → List Field → Option (List Kd)
  | _, [] => some []
  | off, f :: fs => do
    let ks ← g f.type
    guard (f.offset = off ∧ ks.length = P.cellsOf f.type)
    let ls ← flatFields P g (off + ks.length) fs
    return ks ++ ls
def flat (P : Program) : Nat → TypeId → Option (List Kd)
  | 0, _ => none
  | n + 1, t => match P.underlying t with
    | some (.int k) => some [.inl k]
    | some .bool => some [.inr false]
    | some .string => some [.inr true]
    | some (.array m e) => do
      let ks ← flat P n e
      guard (ks.length = P.cellsOf e ∧ m * ks.length = P.cellsOf t)
      return (List.replicate m ks).flatten
    | some (.struct fs) => do
      let ks ← flatFields P (flat P n) 0 fs.toList
      guard (ks.length = P.cellsOf t)
      return ks
    | _ => none

section
variable {H : Type} {enc : TypeId × Value → H} {P : Program} {w : World} {base : Nat} {spare : Nat → Bool} {held : Bool}
theorem fits_fields {g : TypeId → Option (List Kd)} {cs : List Value} {n : Nat}
    (hg : ∀ t ks ds y, g t = some ks → DataW.trod enc P w base spare held n t ds = some y → Fits ks ds) :
    ∀ (fs : List Field) (off : Nat) (ks : List Kd), flatFields P g off fs = some ks →
      (∀ f ∈ fs, ∃ y, DataW.trod enc P w base spare held n f.type ((cs.drop f.offset).take (P.cellsOf f.type)) = some y) → Fits ks ((cs.drop off).take ks.length)
  | [], off, ks, h, _ => by
    simp only [flatFields, Option.some.injEq] at h
    subst h
    exact trivial
  | f :: fs, off, ks, h, hy => by
    simp only [flatFields, Option.bind_eq_bind, Option.bind_eq_some_iff, guard] at h
    obtain ⟨k1, e1, u, e2, k2, e3, e4⟩ := h
    split at e2
    · rename_i hc
      obtain ⟨c1, c2⟩ := hc
      simp only [pure, Option.some.injEq] at e4
      subst e4
      obtain ⟨y, hy1⟩ := hy f (by simp)
      rw [c1, ← c2] at hy1
      have h1 := hg _ _ _ _ e1 hy1
      have h2 := fits_fields hg fs (off + k1.length) k2 e3 (fun f' hf' => hy f' (by simp [hf']))
      rw [List.length_append, List.take_add, List.drop_drop]
      exact h1.append h2
    · simp [failure] at e2
theorem fits_rows {cs : List Value} {ks : List Kd} : ∀ (m i : Nat), (∀ j, i ≤ j → j < i + m → Fits ks ((cs.drop (j * ks.length)).take ks.length)) →
    Fits (List.replicate m ks).flatten ((cs.drop (i * ks.length)).take (m * ks.length))
  | 0, i, _ => by simp [Fits]
  | m + 1, i, h => by
    have h1 := h i (Nat.le_refl _) (by omega)
    have h2 := fits_rows m (i + 1) (fun j hj hj' => h j (by omega) (by omega))
    rw [List.replicate_succ, List.flatten_cons, Nat.succ_mul, Nat.add_comm (m * ks.length), List.take_add, List.drop_drop]
    rw [Nat.succ_mul] at h2
    exact h1.append h2
theorem fits_of : ∀ (F : Nat) (t : TypeId) (ks : List Kd) (fuel : Nat) (cs : List Value) (x : DataW H × List MemPlace), flat P F t = some ks → DataW.trod enc P w base spare held fuel t cs = some x → Fits ks cs
  | 0, _, _, _, _, _, h, _ => by simp [flat] at h
  | F + 1, t, ks, fuel, cs, x, h, hx => by
    unfold flat at h
    split at h
    · rename_i k ht
      obtain ⟨z, rfl, _, hw⟩ := DataW.trod_int ht hx
      simp only [Option.some.injEq] at h
      subst h
      exact ⟨⟨z, rfl, hw⟩, trivial⟩
    · rename_i ht
      obtain ⟨z, rfl, _⟩ := DataW.trod_bool ht hx
      simp only [Option.some.injEq] at h
      subst h
      exact ⟨⟨z, rfl⟩, trivial⟩
    · rename_i ht
      obtain ⟨z, rfl, _, hw⟩ := DataW.trod_string ht hx
      simp only [Option.some.injEq] at h
      subst h
      exact ⟨⟨z, rfl, hw⟩, trivial⟩
    · rename_i m e ht
      simp only [Option.bind_eq_bind, Option.bind_eq_some_iff, guard] at h
      obtain ⟨k1, e1, u, e2, e3⟩ := h
      split at e2
      · rename_i hc
        obtain ⟨c1, c2⟩ := hc
        simp only [pure, Option.some.injEq] at e3
        subst e3
        obtain ⟨xs, n, _, _, hl, hxl, hel⟩ := DataW.trod_array ht hx
        have := fits_rows (cs := cs) (ks := k1) m 0 (fun j _ hj => by
          have hj' : j < m := by omega
          have h1 := hel j hj'
          rw [List.getElem?_eq_getElem (by omega)] at h1
          rw [← c1] at h1
          exact fits_of F e k1 n _ _ e1 h1)
        rw [Nat.zero_mul, List.drop_zero, c2, ← hl, List.take_length] at this
        exact this
      · simp [failure] at e2
    · rename_i fs ht
      simp only [Option.bind_eq_bind, Option.bind_eq_some_iff, guard] at h
      obtain ⟨k1, e1, u, e2, e3⟩ := h
      split at e2
      · rename_i hc
        simp only [pure, Option.some.injEq] at e3
        subst e3
        obtain ⟨xs, n, _, _, hl, hxl, hf⟩ := DataW.trod_struct ht hx
        have := fits_fields (cs := cs) (n := n) (fun t' ks' ds y h1 h2 => fits_of F t' ks' n ds y h1 h2) fs.toList 0 k1 e1 (fun f hf' => by
          obtain ⟨j, hj, rfl⟩ := List.getElem_of_mem hf'
          have hj' : j < fs.size := by simpa using hj
          have h1 := hf j fs[j] (by simp [hj'])
          rw [List.getElem?_eq_getElem (by omega)] at h1
          exact ⟨_, by simpa using h1⟩)
        rw [List.drop_zero, hc, ← hl, List.take_length] at this
        exact this
      · simp [failure] at e2
    · simp at h
end
theorem list_choose {α : Type} (n : Nat) (p : Nat → α → Prop) (h : ∀ i, i < n → ∃ x, p i x) : ∃ l : List α, l.length = n ∧ ∀ i (hi : i < l.length), p i l[i] := by
  refine ⟨List.ofFn fun i : Fin n => Classical.choose (h i.1 i.2), by simp, fun i hi => ?_⟩
  rw [List.getElem_ofFn]
  exact Classical.choose_spec (h i (by simpa using hi))
end Go.Proofs.YtnepnckiciapfaaDoor.Frame
