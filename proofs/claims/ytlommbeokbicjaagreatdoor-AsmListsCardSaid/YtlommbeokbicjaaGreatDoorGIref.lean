/-
  Texts laid one behind the other: InstRef1, InstLaw.
  What the document's small functions of layer 13 (package mintmarkref13: get, bits, reg, signed) answer.
  What the laws over instructions share: both tables, words handed in, operands that are the same.
-/
import Derived.Test.YtlommbeokbicjaaGreatDoorGField
import Derived.Test.YtlommbeokbicjaaGreatDoorGIm
import Derived.Test.YtlommbeokbicjaaGreatDoorGInst
import Derived.Test.YtlommbeokbicjaaGreatDoorGMarks
namespace Go.Proofs.YtlommbeokbicjaaGreatDoor
open Go.RowKit Words FieldMath InstMath

def regB (n : Int) : Bool := decide (0 ≤ n) && decide (n ≤ 31)
set_option maxHeartbeats 400000 in
theorem rreg_any (n : Int) (w : World) : Calls Tryz.prog 95 #[.int .i64 n] w (Quiet (.bool (regB n)) w) := by
  unfold regB
  by_cases h : 0 ≤ n
  · by_cases h2 : n ≤ 31
    · rw [decide_eq_true h, decide_eq_true h2]
      go_enter Tryz.func95, Tryz.ntmps95
      go_wp2
      go_ret
      exact ⟨rfl, 0, rfl⟩
    · rw [decide_eq_true h, decide_eq_false h2]
      have h3 : 31 < n := by omega
      clear h2
      go_enter Tryz.func95, Tryz.ntmps95
      go_wp2
      go_ret
      exact ⟨ret_bool (decide_eq_false (by omega)), 0, rfl⟩
  · rw [decide_eq_false h]
    have h3 : n < 0 := by omega
    clear h
    go_enter Tryz.func95, Tryz.ntmps95
    go_wp2
    go_ret
    exact ⟨rfl, 0, rfl⟩
set_option maxHeartbeats 400000 in
theorem rget13 (x : BitVec 64) (hx : x.toNat < 4294967296) (a n : Int) (w : World) : Calls Tryz.prog 68 #[.int .u32 (x.toNat : Int), .int .i64 a, .int .i64 n] w (Quiet (.int .u64 ((getB x a n).toNat : Int)) w) := by
  have hu : IntKind.u64.wrap (x.toNat : Int) = (x.toNat : Int) := by rw [IntKind.wrap_u64]; omega
  have C := hide (fun W => rget_any x a n W)
  generalize getB x a n = G at *
  clear hx
  go_enter Tryz.func68, Tryz.ntmps68
  go_wp2_with (go_at_call 94; (with_reducible refine (C.out _).mono ?_); rintro e w' ⟨rfl, n1, rfl⟩)
  go_ret
  exact ⟨rfl, _, rfl⟩
set_option maxHeartbeats 400000 in
theorem rsigned_any (x : BitVec 64) (n : Int) (w : World) : Calls Tryz.prog 93 #[.int .u64 (x.toNat : Int), .int .i64 n] w (Quiet (.int .i64 (signB x n).toInt) w) := by
  have hu := wrap64_bv (signB x n)
  have C := hide (fun W => rsign_any x n W)
  generalize signB x n = G at *
  rw [← hu]
  clear hu
  go_enter Tryz.func93, Tryz.ntmps93
  go_wp2_with (go_at_call 124; (with_reducible refine (C.out _).mono ?_); rintro e w' ⟨rfl, n1, rfl⟩)
  go_ret
  exact ⟨rfl, _, rfl⟩
set_option maxHeartbeats 400000 in
theorem rbits_any (m : Int) (f n : Int) (a : Nat) (ha : a ≤ 64) (w : World) : Calls Tryz.prog 96 #[.int .i64 m, .int .i64 f, .int .i64 n, .int .i64 (a : Int)] w (Quiet (.int .u32 (IntKind.u32.wrap ((getB (BitVec.ofInt 64 m) f n <<< a).toNat : Int))) w) := by
  have hu := wrap_u64_bv m
  have hs := shl_bv (getB (BitVec.ofInt 64 m) f n) a
  have C := hide (fun W => rget_any (BitVec.ofInt 64 m) f n W)
  generalize getB (BitVec.ofInt 64 m) f n <<< a = G2 at *
  generalize getB (BitVec.ofInt 64 m) f n = G at *
  generalize BitVec.ofInt 64 m = M at *
  obtain ⟨V, hV⟩ : ∃ V, IntKind.u32.wrap (G2.toNat : Int) = V := ⟨_, rfl⟩
  rw [hV]
  have ha2 : (a : Int) ≤ 64 := by omega
  go_enter Tryz.func96, Tryz.ntmps96
  go_wp2_with (go_at_call 94; (with_reducible refine (C.out _).mono ?_); rintro e w' ⟨rfl, n1, rfl⟩)
  go_ret
  exact ⟨rfl, _, rfl⟩
end Go.Proofs.YtlommbeokbicjaaGreatDoor

namespace Go.Proofs.YtlommbeokbicjaaGreatDoor
open Go.RowKit Words FieldMath InstMath

def Tab2 (W : World) : Prop := TabN W ∧ TabW W
theorem Tab2.behind {W W' : World} (h : Tab2 W) (hb : Below W.heap.size W W') : Tab2 W' := ⟨h.1.behind hb, h.2.behind hb⟩
theorem tabs_of_laid2 {W : World} (h : laidMetH Tryz.prog [("mintmark/inst.names", Rows.laid_mintmark_inst_names), ("mintmark/inst.words", Rows.laid_mintmark_inst_words)] W) : Tab2 W := tabs_of_laid h
theorem enc_congr {s : Nat} {f g : Nat → Int} : ∀ {L : List Prt} {w : BitVec 64}, (∀ p ∈ L, f p.1 = g p.1) → encL s f L w = encL s g L w
  | [], _, _ => rfl
  | p :: r, w, h => by
    unfold encL
    rw [h p (by simp), enc_congr (fun q hq => h q (List.mem_cons_of_mem _ hq))]
theorem behind_call {f : FuncId} {args : Array Value} {v : Value} {w0 : World} (c : ∀ W, Tab2 W → Calls Tryz.prog f args W (Makes v W)) (hT : Tab2 w0) (y : Behind w0.heap.size w0) :
    Calls Tryz.prog f args y.world fun e w'' => e = .returned v ∧ ∃ z : Behind w0.heap.size w0, w'' = z.world :=
  (c _ (hT.behind y.below)).mono fun _ _ ⟨he, hb⟩ => ⟨he, ⟨_, y.below.trans (hb.mono y.below.size)⟩, rfl⟩
theorem shape_makes (k : Nat) (h : 1 ≤ k ∧ k ≤ 69) (W : World) : Calls Tryz.prog 15 #[.int .i64 (k : Int)] W (Makes (.int .u8 (shp k : Int)) W) := (shape_yes k h W).mono fun _ _ h => quiet_makes h
theorem shape_makes0 (k : Int) (h : ¬ (1 ≤ k ∧ k ≤ 69)) (W : World) : Calls Tryz.prog 15 #[.int .i64 k] W (Makes (.int .u8 0) W) := (shape_no k h W).mono fun _ _ h => quiet_makes h
theorem name_makes (k : Nat) (h : 1 ≤ k ∧ k ≤ 69) (W : World) (hW : Tab2 W) : Calls Tryz.prog 46 #[.int .i64 (k : Int)] W (Makes (.string (nameB k)) W) := (name_yes k h W hW.1).mono fun _ _ h => quiet_makes h
theorem name_makes0 (k : Int) (h : ¬ (1 ≤ k ∧ k ≤ 69)) (W : World) : Calls Tryz.prog 46 #[.int .i64 k] W (Makes (.string (nameB 0)) W) := (name_no k h W).mono fun _ _ h => quiet_makes h
theorem find_makes (k : Nat) (h : k < 70) (W : World) (hW : Tab2 W) : Calls Tryz.prog 50 #[.string (nameB k)] W (Makes (.int .i64 (k : Int)) W) := (find_any k h W hW.1).mono fun _ _ h => quiet_makes h
theorem encV_some (y : BitVec 64) : encV (some y) = .tuple #[.int .u32 (y.toNat : Int), .bool true] := rfl
theorem rng_ops {k : Nat} (x : BitVec 64) (o : Nat) : rng (opsI k x o) := by
  have h1 := BitVec.toInt_lt (x := opsB k x o)
  have h2 := BitVec.le_toInt (x := opsB k x o)
  unfold rng opsI
  omega
theorem four_ops {k : Nat} (h1 : 1 ≤ k) (h2 : k ≤ 69) (x : BitVec 64) : encK k (four (opsI k x 0) (opsI k x 1) (opsI k x 2) (opsI k x 3)) = encK k (opsI k x) := by
  unfold encK
  have ok := ok_shape (shape_of h1 h2)
  refine enc_congr fun p hp => ?_
  have := ok.four p hp
  match hp1 : p.1, this with
  | 0, _ => rfl
  | 1, _ => rfl
  | 2, _ => rfl
  | 3, _ => rfl
theorem fits_i64 {ks : List Frame.Kd} {cs : List Value} (h : Frame.Fits (.inl .i64 :: ks) cs) : ∃ (z : Int) (r : List Value), cs = .int .i64 z :: r ∧ rng z ∧ Frame.Fits ks r := by
  cases cs with
  | nil => exact h.elim
  | cons c r =>
    obtain ⟨⟨z, hz, hw⟩, h2⟩ := h
    exact ⟨z, r, by rw [hz], Frame.wf_i64 hw, h2⟩
theorem fits_nil {cs : List Value} (h : Frame.Fits [] cs) : cs = [] := by
  cases cs with
  | nil => rfl
  | cons _ _ => exact h.elim
theorem open5 {cs : List Value} (h : Frame.Fits [.inl .i64, .inl .i64, .inl .i64, .inl .i64, .inl .i64] cs) : ∃ a b c d e : Int, cs = [.int .i64 a, .int .i64 b, .int .i64 c, .int .i64 d, .int .i64 e] ∧ rng a ∧ rng b ∧ rng c ∧ rng d ∧ rng e := by
  obtain ⟨a, l0, e0, ra, h⟩ := fits_i64 h
  obtain ⟨b, l1, e1, rb, h⟩ := fits_i64 h
  obtain ⟨c, l2, e2, rc, h⟩ := fits_i64 h
  obtain ⟨d, l3, e3, rd, h⟩ := fits_i64 h
  obtain ⟨e, l4, e4, re, h⟩ := fits_i64 h
  exact ⟨a, b, c, d, e, by rw [e0, e1, e2, e3, e4, fits_nil h], ra, rb, rc, rd, re⟩
theorem as_word {X : Int} (h : 0 ≤ X ∧ X < 4294967296) : ∃ x : BitVec 64, X = (x.toNat : Int) ∧ x.toNat < 4294967296 := by
  refine ⟨BitVec.ofNat 64 X.toNat, ?_, ?_⟩
  · rw [BitVec.toNat_ofNat, Nat.mod_eq_of_lt (by omega)]; omega
  · rw [BitVec.toNat_ofNat, Nat.mod_eq_of_lt (by omega)]; omega
theorem wf_u32 {x : Int} (h : (Lit.int .u32 x).wf = true) : 0 ≤ x ∧ x < 4294967296 := by
  have := bounds_u32 h
  omega
end Go.Proofs.YtlommbeokbicjaaGreatDoor
