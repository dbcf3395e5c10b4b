/-
  Permissions as plain numbers and lists: the letters, the text of a number, and what a text is parsed to. No program text here.
-/
import Derived.Laws.Cover4
import Derived.Laws.Concat
namespace Go.Proofs.YtbncoiejbclpjaaDoor.PermMath
open Go

def letN (k : Nat) : Nat := [114, 119, 120, 82, 87, 115, 117, 83, 103].getD k 0
/-- The place of a letter; 9: there is none. -/
def bitOf (c : Nat) : Nat := if c = 114 then 0 else if c = 119 then 1 else if c = 120 then 2 else if c = 82 then 3 else if c = 87 then 4 else if c = 115 then 5 else if c = 117 then 6 else if c = 83 then 7 else if c = 103 then 8 else 9
/-- The letters of the lowest k bits. -/
def textTo (m : Nat) : Nat → List Nat
  | 0 => []
  | k + 1 => textTo m k ++ if m.testBit k then [letN k] else []
def textN (m : Nat) : List Nat := textTo m 9 ++ if m < 512 then [] else [43]
def parseN : List Nat → Nat → Option Nat
  | [], a => some a
  | c :: l, a => if bitOf c = 9 then none else if a.testBit (bitOf c) then none else parseN l (a ||| 2 ^ bitOf c)
def bytesOf (l : List Nat) : ByteArray := ⟨(l.map UInt8.ofNat).toArray⟩
def numsOf (s : ByteArray) : List Nat := s.data.toList.map UInt8.toNat

theorem letN_cases {k : Nat} (h : k < 9) : letN k = 114 ∧ k = 0 ∨ letN k = 119 ∧ k = 1 ∨ letN k = 120 ∧ k = 2 ∨ letN k = 82 ∧ k = 3 ∨ letN k = 87 ∧ k = 4 ∨ letN k = 115 ∧ k = 5 ∨ letN k = 117 ∧ k = 6 ∨ letN k = 83 ∧ k = 7 ∨ letN k = 103 ∧ k = 8 := by
  match k, h with
  | 0, _ => simp [letN]
  | 1, _ => simp [letN]
  | 2, _ => simp [letN]
  | 3, _ => simp [letN]
  | 4, _ => simp [letN]
  | 5, _ => simp [letN]
  | 6, _ => simp [letN]
  | 7, _ => simp [letN]
  | 8, _ => simp [letN]
theorem letN_lt {k : Nat} (h : k < 9) : letN k < 128 := by have := letN_cases h; omega
theorem bitOf_le (c : Nat) : bitOf c ≤ 9 := by unfold bitOf; repeat' split
                                               all_goals omega
theorem bitOf_high {c : Nat} (h : 128 ≤ c) : bitOf c = 9 := by unfold bitOf; repeat' split
                                                               all_goals omega
theorem bitOf_let {k : Nat} (h : k < 9) : bitOf (letN k) = k := by
  rcases letN_cases h with h | h | h | h | h | h | h | h | h <;> obtain ⟨h1, rfl⟩ := h <;> rfl
theorem bitOf_hit {c k : Nat} (h : k < 9) (e : letN k = c) : bitOf c = k := by rw [← e, bitOf_let h]
theorem let_bitOf {c : Nat} (h : bitOf c < 9) : letN (bitOf c) = c := by
  have hc : c = 114 ∨ c = 119 ∨ c = 120 ∨ c = 82 ∨ c = 87 ∨ c = 115 ∨ c = 117 ∨ c = 83 ∨ c = 103 := by
    unfold bitOf at h
    repeat' (split at h)
    all_goals omega
  rcases hc with rfl | rfl | rfl | rfl | rfl | rfl | rfl | rfl | rfl <;> rfl
theorem bitOf_miss {c : Nat} (h : ∀ j, j < 9 → letN j ≠ c) : bitOf c = 9 := by
  have := bitOf_le c
  by_cases h9 : bitOf c < 9
  · exact absurd (let_bitOf h9) (h _ h9)
  · omega

theorem textTo_lt (m : Nat) : ∀ k, k ≤ 9 → (∀ c ∈ textTo m k, c < 128) ∧ (textTo m k).length ≤ k
  | 0, _ => by simp [textTo]
  | k + 1, h => by
    obtain ⟨h1, h2⟩ := textTo_lt m k (by omega)
    have h3 := letN_lt (k := k) (by omega)
    unfold textTo
    constructor
    · intro c hc
      rcases List.mem_append.1 hc with hc | hc
      · exact h1 c hc
      · split at hc
        · simp at hc; omega
        · simp at hc
    · rw [List.length_append]
      split <;> simp <;> omega
theorem textN_lt (m : Nat) : (∀ c ∈ textN m, c < 128) ∧ (textN m).length ≤ 10 := by
  obtain ⟨h1, h2⟩ := textTo_lt m 9 (by omega)
  unfold textN
  constructor
  · intro c hc
    rcases List.mem_append.1 hc with hc | hc
    · exact h1 c hc
    · split at hc
      · simp at hc
      · simp at hc; omega
  · rw [List.length_append]
    split <;> simp <;> omega
theorem textTo_hit {m k : Nat} (h : m.testBit k = true) : textTo m (k + 1) = textTo m k ++ [letN k] := by simp [textTo, h]
theorem textTo_miss {m k : Nat} (h : m.testBit k = false) : textTo m (k + 1) = textTo m k := by simp [textTo, h]

theorem bytesOf_append (a b : List Nat) : bytesOf a ++ bytesOf b = bytesOf (a ++ b) := by
  unfold bytesOf
  rw [ByteArray.mk_append_mk]
  simp
theorem bytesOf_size (l : List Nat) : (bytesOf l).size = l.length := by
  show (l.map UInt8.ofNat).toArray.size = _
  simp
theorem numsOf_bytesOf {l : List Nat} (h : ∀ c ∈ l, c < 128) : numsOf (bytesOf l) = l := by
  unfold numsOf bytesOf
  simp only [List.map_map]
  have : ∀ c ∈ l, (UInt8.toNat ∘ UInt8.ofNat) c = id c := fun c hc => by
    have := h c hc
    simp
    omega
  rw [List.map_congr_left this, List.map_id]
theorem bytesOf_inj {a b : List Nat} (ha : ∀ c ∈ a, c < 128) (hb : ∀ c ∈ b, c < 128) (h : bytesOf a = bytesOf b) : a = b := by
  rw [← numsOf_bytesOf ha, h, numsOf_bytesOf hb]

/-- ASCII runes as bytes. -/
theorem encode_ascii {c : Nat} (h : c < 128) : Utf8.encode (c : Int) = bytesOf [c] := by
  unfold Utf8.encode
  have hv : Utf8.valid (c : Int) = true := by unfold Utf8.valid; simp; omega
  have h2 : c < 0x80 := h
  simp only [hv, if_true, Int.toNat_natCast, h2]
  rfl
theorem runes_ascii : ∀ (l : List Nat) (s : List Nat), (∀ c ∈ l, c < 128) → (l.map (fun c : Nat => (c : Int))).foldl (fun r n => r ++ Utf8.encode n) (bytesOf s) = bytesOf (s ++ l)
  | [], s, _ => by simp
  | c :: l, s, h => by
    simp only [List.map_cons, List.foldl_cons]
    rw [encode_ascii (h c (by simp)), bytesOf_append, runes_ascii l _ (fun x hx => h x (by simp [hx]))]
    simp
theorem runesBytes_ascii (l : List Nat) (h : ∀ c ∈ l, c < 128) : runesBytes (l.map (fun c : Nat => (c : Int))) = bytesOf l := by
  have := runes_ascii l [] h
  rw [List.nil_append] at this
  exact this

/-- What is told is parsed. -/
theorem back_all : ((List.range 512).all fun m => parseN (textN m) 0 == some m) = true := by decide +kernel
theorem back {m : Nat} (h : m < 512) : parseN (textN m) 0 = some m := by
  have := List.all_eq_true.1 back_all m (by simpa using h)
  simpa using this
/-- A text of some letters is parsed whatever their order. -/
theorem turn_all : ((List.range 512).all fun m => (List.range (textN m).length).all fun k => (parseN ((textN m).drop k ++ (textN m).take k) 0 == some m) && (parseN (textN m ++ ((textN m).drop k).take 1) 0 == none)) = true := by decide +kernel
theorem turn {m k : Nat} (h : m < 512) (hk : k < (textN m).length) : parseN ((textN m).drop k ++ (textN m).take k) 0 = some m ∧ parseN (textN m ++ ((textN m).drop k).take 1) 0 = none := by
  have h1 := List.all_eq_true.1 turn_all m (by simpa using h)
  have h2 := List.all_eq_true.1 h1 k (by simpa using hk)
  simpa using h2
theorem parse_append : ∀ (a b : List Nat) (x : Nat), parseN (a ++ b) x = (parseN a x).bind (parseN b)
  | [], b, x => rfl
  | c :: a, b, x => by
    simp only [List.cons_append, parseN]
    split
    · rfl
    · split
      · rfl
      · exact parse_append a b _
/-- A number that has another bit is told with a sign that is no letter. -/
theorem plus {m : Nat} (h : 512 ≤ m) : parseN (textN m) 0 = none := by
  unfold textN
  rw [if_neg (by omega), parse_append]
  cases parseN (textTo m 9) 0 with
  | none => rfl
  | some a => rfl
theorem nil_text {m : Nat} (h : m < 512) (e : textN m = []) : m = 0 := by
  have := back h
  rw [e] at this
  simpa [parseN] using this.symm
end Go.Proofs.YtbncoiejbclpjaaDoor.PermMath
