/-
  The frame of every law whose row lists package variables: what the listed variables hold, cell by cell; and from the walk to the row. No program text here.
-/
import Derived.Test.YtnepnckiciapfaaDoorLawFrame
import Derived.LaidMore
import Derived.MakeChecks
import Derived.Stop.Joined
import Derived.SevenTiedAt
namespace Go.Proofs.YtnepnckiciapfaaDoor.Frame
open Go.ChangeShapes Go.WideShapes Go.ChangeAt Go.RowKit

/-! A datum without pointers, flat: its literals, and the cells that say them. -/
def lits {H : Type} : Nat → DataW H → List Lit
  | 0, _ => []
  | _ + 1, .lit l => [l]
  | n + 1, .agg ps => ps.flatMap (lits n)
  | _, _ => []
def Say : Lit → Value → Prop
  | .int k z, c => c = .int k z
  | .bool b, c => c = .bool b
  | .string l, c => ∃ s : ByteArray, c = .string s ∧ s.data.toList = l
  | _, _ => False
def Says : List Lit → List Value → Prop
  | [], [] => True
  | l :: ls, c :: cs => Say l c ∧ Says ls cs
  | _, _ => False
theorem Says.append : ∀ {ks ls : List Lit} {cs es : List Value}, Says ks cs → Says ls es → Says (ks ++ ls) (cs ++ es)
  | [], _, [], _, _, h => h
  | _ :: _, _, _ :: _, _, ⟨h1, h2⟩, h => ⟨h1, Says.append h2 h⟩
section
variable {H : Type} {enc : TypeId × Value → H} {P : Program} {w : World} {base : Nat} {spare : Nat → Bool} {held : Bool}
theorem says_fields {g : TypeId → Option (List Kd)} {L : DataW H → List Lit} {cs : List Value} {n : Nat}
    (hg : ∀ t ks ds y, g t = some ks → DataW.trod enc P w base spare held n t ds = some y → Says (L y.1) ds) :
    ∀ (fs : List Field) (xs : List (DataW H × List MemPlace)) (off : Nat) (ks : List Kd), flatFields P g off fs = some ks → xs.length = fs.length →
      (∀ (i : Nat) (f : Field), fs[i]? = some f → DataW.trod enc P w base spare held n f.type ((cs.drop f.offset).take (P.cellsOf f.type)) = xs[i]?) → Says ((xs.map (·.1)).flatMap L) ((cs.drop off).take ks.length)
  | [], xs, off, ks, h, hl, _ => by
    simp only [flatFields, Option.some.injEq] at h
    subst h
    obtain rfl : xs = [] := List.length_eq_zero_iff.1 hl
    exact trivial
  | f :: fs, [], off, ks, h, hl, _ => by simp at hl
  | f :: fs, x :: xs, off, ks, h, hl, hy => by
    simp only [flatFields, Option.bind_eq_bind, Option.bind_eq_some_iff, guard] at h
    obtain ⟨k1, e1, u, e2, k2, e3, e4⟩ := h
    split at e2
    · rename_i hc
      obtain ⟨c1, c2⟩ := hc
      simp only [pure, Option.some.injEq] at e4
      subst e4
      have hy1 := hy 0 f rfl
      rw [c1, ← c2] at hy1
      have h1 := hg _ _ _ _ e1 (by simpa using hy1)
      have h2 := says_fields hg fs xs (off + k1.length) k2 e3 (by simpa using hl) (fun i f' hf' => by simpa using hy (i + 1) f' (by simpa using hf'))
      rw [List.length_append, List.take_add, List.drop_drop, List.map_cons, List.flatMap_cons]
      exact h1.append h2
    · simp [failure] at e2
theorem says_rows {L : DataW H → List Lit} {c : Nat} : ∀ (xs : List (DataW H × List MemPlace)) (cs : List Value), (∀ (i : Nat) (h : i < xs.length), Says (L xs[i].1) ((cs.drop (i * c)).take c)) →
    Says ((xs.map (·.1)).flatMap L) (cs.take (xs.length * c))
  | [], cs, _ => by simp [Says]
  | x :: xs, cs, h => by
    have h1 := h 0 (by simp)
    have h2 := says_rows xs (cs.drop c) (fun i hi => by
      have := h (i + 1) (by simpa using hi)
      rw [List.drop_drop, show c + i * c = (i + 1) * c by rw [Nat.succ_mul, Nat.add_comm]]
      exact this)
    rw [List.length_cons, Nat.succ_mul, Nat.add_comm (xs.length * c), List.take_add, List.map_cons, List.flatMap_cons]
    exact Says.append (by simpa using h1) h2
theorem says_of : ∀ (F : Nat) (t : TypeId) (ks : List Kd) (fuel : Nat) (cs : List Value) (x : DataW H × List MemPlace), flat P F t = some ks → DataW.trod enc P w base spare held fuel t cs = some x → Says (lits F x.1) cs
  | 0, _, _, _, _, _, h, _ => by simp [flat] at h
  | F + 1, t, ks, fuel, cs, x, h, hx => by
    unfold flat at h
    split at h
    · rename_i k ht
      obtain ⟨z, rfl, rfl, _⟩ := DataW.trod_int ht hx
      exact ⟨rfl, trivial⟩
    · rename_i ht
      obtain ⟨z, rfl, rfl⟩ := DataW.trod_bool ht hx
      exact ⟨rfl, trivial⟩
    · rename_i ht
      obtain ⟨z, rfl, rfl, _⟩ := DataW.trod_string ht hx
      exact ⟨⟨z, rfl, rfl⟩, trivial⟩
    · rename_i m e ht
      simp only [Option.bind_eq_bind, Option.bind_eq_some_iff, guard] at h
      obtain ⟨k1, e1, u, e2, e3⟩ := h
      split at e2
      · rename_i hc
        obtain ⟨c1, c2⟩ := hc
        obtain ⟨xs, n, _, rfl, hl, hxl, hel⟩ := DataW.trod_array ht hx
        have := says_rows (L := lits F) (c := P.cellsOf e) xs cs (fun i hi => by
          have h1 := hel i (by omega)
          rw [List.getElem?_eq_getElem hi] at h1
          exact says_of F e k1 n _ _ e1 h1)
        rw [hxl, ← c1, c2, ← hl, List.take_length] at this
        exact this
      · simp [failure] at e2
    · rename_i fs ht
      simp only [Option.bind_eq_bind, Option.bind_eq_some_iff, guard] at h
      obtain ⟨k1, e1, u, e2, e3⟩ := h
      split at e2
      · rename_i hc
        obtain ⟨xs, n, _, rfl, hl, hxl, hf⟩ := DataW.trod_struct ht hx
        have := says_fields (L := lits F) (cs := cs) (n := n) (fun t' ks' ds y h1 h2 => says_of F t' ks' n ds y h1 h2) fs.toList xs 0 k1 e1 (by simpa using hxl) (fun i f hf' => hf i f (by simpa using hf'))
        rw [List.drop_zero, hc, ← hl, List.take_length] at this
        exact this
      · simp [failure] at e2
    · simp at h
end

section
variable {H : Type} {enc : TypeId × Value → H} {P : Program} {W : World} {base : Nat} {t : TypeId} {v : Value} {d : DataW H} {ps : List MemPlace}
/-- A struct of integers, bools, strings (and structs and arrays of these) by value. -/
theorem open_struct {F : Nat} {ks : List Kd} {fs : Array Field} (ht : P.underlying t = some (.struct fs)) (hk : flat P F t = some ks)
    (hv : Value.okWide P W .any base t v) (h : DataW.Trod enc P W 0 (fun _ => true) true t v d ps) : ∃ cs : List Value, v = .agg cs.toArray ∧ Fits ks cs := by
  obtain ⟨cs, rfl, hsz, _⟩ : ∃ cs, v = .agg cs ∧ cs.size = P.cellsOf t ∧ Row.okWide P W .any base t cs := by
    simpa [Value.okWide, ht] using hv
  obtain ⟨fuel, hf⟩ := h
  exact ⟨cs.toList, by simp, fits_of F t ks fuel _ _ hk (by simpa [Value.cells] using hf)⟩
end

/-- A law's call, where the listed variables hold what the row says: true, and nothing that was there turns. -/
def WalksLaid (L : List (String × DataW Unit)) (f : FuncId) (fn : Func) : Prop :=
  ∀ (H : Type) (enc : TypeId × Value → H) (W : World) (base : Nat) (args : Array Value) (ds : List (DataW H)) (ps : List MemPlace), laidMetH Tryd.prog L W →
    (∀ (j : Nat) t v, fn.params[j]? = some t → args[j]? = some v → Value.okWide Tryd.prog W .any base t v) →
    DataW.TrodAll enc Tryd.prog W 0 (fun _ => true) true fn.params.toList args.toList ds ps →
    Calls Tryd.prog f args W fun e W' => e = .returned (.bool true) ∧ Below W.heap.size W W'

set_option maxRecDepth 100000 in
theorem liftLaid (L : List (String × DataW Unit)) (os : Os) (started : os.Started) (H : Type) (enc : TypeId × Value → H) (f : FuncId) (fn : Func) (s : ChangeSpec) (tb : TypeId)
    (noInit : Tryd.checked.prog.inits.idxOf? f = none) (hfn : Tryd.prog.funcs[f]? = some fn) (hb : Tryd.prog.underlying tb = some .bool) (hres : fn.resultTypes = #[tb]) (hvars : s.vars = [])
    (hread : fn.params.toList.all (fun t => Tryd.prog.readableRec t && decide (t < Tryd.prog.types.size)) = true)
    (hspec : ∀ ds : List (DataW H), ds.length = fn.params.toList.length → (s.fn H ds).results = [.lit (.bool true)] ∧ (s.fn H ds).args = ds ∧ (s.fn H ds).vars = [])
    (witness : ∃ (w : World) (tape : Tape) (i : Input), w.os = os ∧ (w.forCall tape i).Shaped Tryd.checked.prog ∧ i.vars = [] ∧ Input.okWide Tryd.checked.prog (w.forCall tape i) .any w.heap.size f i ∧
      ((s.pre enc Tryd.checked.prog fn [] false (w.forCall tape i).memory i.args ∧ laidMetH Tryd.prog L (w.forCall tape i).memory) ∧ sizedMet enc Tryd.checked.prog fn (OpenSpec.ofChange s) false (w.forCall tape i).memory i.args) ∧ Assume.holds {} Tryd.checked.prog (lone (Frame.enter Tryd.checked.prog f i.args .normal) [] (w.forCall tape i)))
    (walk : WalksLaid L f fn) :
    ReturnsInHanded {} Tryd.checked os f .any (fun w args => (s.pre enc Tryd.prog fn [] false w args ∧ laidMetH Tryd.prog L w) ∧ sizedMet enc Tryd.prog fn (OpenSpec.ofChange s) false w args) (s.post enc Tryd.prog fn false true false false) := by
  refine returnsInHanded_of_change_and (C := Tryd.checked) (X := fun w _ => laidMetH Tryd.prog L w) (fun _ _ _ hh h => h.of_heap hh) own started noInit hfn witness ?_
  intro W base args ds gs before hval hW _ _ hL _
  have hW' := hW
  obtain ⟨p, q, hA, hV, rfl, hfz, hnd⟩ := hW
  have hlen := trodAll_length _ _ _ _ hA
  obtain ⟨rfl, rfl⟩ : gs = [] ∧ q = [] := by
    rw [hvars] at hV
    cases gs with
    | nil => exact ⟨rfl, hV⟩
    | cons g gs => exact absurd hV (by simp [DataW.TrodVars])
  obtain ⟨e1, e2, e3⟩ := hspec ds hlen
  refine (walk H enc W base args ds p hL hval hA).mono fun e W' ⟨he, bel⟩ => ?_
  subst he
  have hlt : ∀ x ∈ p, x.block < W.heap.size := fun x hx => hW'.lt x (by simp [hx])
  refine ⟨_, rfl, ds, [], p ++ [], [], p, [], hW', ?_, ?_, ?_, bel.frame _, fun h => by cases h⟩
  · rw [List.append_nil, e1, hres]
    exact trodAll_mk1 (shut_bool hb true)
  · rw [List.append_nil, e2]
    exact below_all laidOut bel _ _ _ _ hread hA hlt
  · rw [List.append_nil, e3, hvars]
    exact rfl
end Go.Proofs.YtnepnckiciapfaaDoor.Frame
