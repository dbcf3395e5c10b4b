/-
  PermBack holds: for every p and q the law returns true and turns nothing that was there, where the letters' table holds what the program's text lays.
-/
import Derived.Test.YteakjajnaoiilaaDoorPermParse
import Derived.Test.YteakjajnaoiilaaDoorPermLaid
namespace Go.Proofs.YteakjajnaoiilaaDoor.PermBack
open Go.RowKit Words PermMath

theorem parse_text (m : Nat) (W : World) (h : TabL W) : Calls Tryd.prog 15 #[.string (bytesOf (textN m))] W (Makes (parsedV (parseN (textN m) 0)) W) := by
  have := parse_any (bytesOf (textN m)) W h
  rwa [numsOf_bytesOf (textN_lt m).1] at this
theorem low_lt (p : BitVec 64) : (p &&& 511#64).toNat < 512 := by
  rw [BitVec.toNat_and]
  exact Nat.lt_of_le_of_lt Nat.and_le_right (by decide)
theorem high_le (p : BitVec 64) : 512 ≤ (p ||| 512#64).toNat := by
  rw [BitVec.toNat_or]
  exact Nat.le_trans (by decide) Nat.right_le_or
theorem within_or (p q : BitVec 64) : withinB p q = (p ||| q == q) := by
  rw [Bool.eq_iff_iff, withinB_iff, beq_iff_eq]
  constructor
  · intro h
    refine ext64 fun i hi => ?_
    rw [BitVec.getLsbD_or]
    cases hp : p.getLsbD i with
    | false => rfl
    | true => rw [h i hi hp]; rfl
  · intro h i hi hp
    have := congrArg (fun z => z.getLsbD i) h
    simp [hp] at this
    exact this

/-- What the walk needs, in letters. -/
structure Met (P Q X Y A O : Int) (S1 S2 : ByteArray) (V : Bool) : Prop where
  x : bits .and .u64 P 511 = X
  y : bits .or .u64 P 512 = Y
  a : bits .and .u64 P Q = A
  o : bits .or .u64 P Q = O
  v : (O == Q) = V
  t1 : ∀ W, TabL W → Calls Tryd.prog 11 #[.int .u64 X] W (Makes (.string S1) W)
  t2 : ∀ W, TabL W → Calls Tryd.prog 11 #[.int .u64 Y] W (Makes (.string S2) W)
  p1 : ∀ W, TabL W → Calls Tryd.prog 15 #[.string S1] W (Makes (.tuple #[.int .u64 X, .bool true]) W)
  p2 : ∀ W, TabL W → Calls Tryd.prog 15 #[.string S2] W (Makes (.tuple #[.int .u64 0, .bool false]) W)
  w1 : ∀ W, Calls Tryd.prog 9 #[.int .u64 A, .int .u64 P] W (Same (.bool true) W)
  w2 : ∀ W, Calls Tryd.prog 9 #[.int .u64 A, .int .u64 Q] W (Same (.bool true) W)
  w3 : ∀ W, Calls Tryd.prog 9 #[.int .u64 P, .int .u64 O] W (Same (.bool true) W)
  w4 : ∀ W, Calls Tryd.prog 9 #[.int .u64 P, .int .u64 Q] W (Same (.bool V) W)
  w5 : ∀ W, Calls Tryd.prog 9 #[.int .u64 1, .int .u64 3] W (Same (.bool true) W)
  w6 : ∀ W, Calls Tryd.prog 9 #[.int .u64 4, .int .u64 3] W (Same (.bool false) W)
theorem met (p q : BitVec 64) : ∃ X Y A O S1 S2 V, Met (p.toNat : Int) (q.toNat : Int) X Y A O S1 S2 V := by
  refine ⟨((p &&& 511#64).toNat : Int), ((p ||| 512#64).toNat : Int), ((p &&& q).toNat : Int), ((p ||| q).toNat : Int), bytesOf (textN (p &&& 511#64).toNat), bytesOf (textN (p ||| 512#64).toNat), withinB p q,
    and_bv p 511#64, or_bv p 512#64, and_bv p q, or_bv p q, ?_, fun W h => text_any _ W h, fun W h => text_any _ W h, fun W h => ?_, fun W h => ?_, fun W => ?_, fun W => ?_, fun W => ?_, fun W => within_any p q W, fun W => ?_, fun W => ?_⟩
  · rw [bv_eq_iff, within_or]
  · have := parse_text (p &&& 511#64).toNat W h
    rw [back (low_lt p)] at this
    exact this
  · have := parse_text (p ||| 512#64).toNat W h
    rw [plus (high_le p)] at this
    exact this
  · have := within_any (p &&& q) p W
    rwa [show withinB (p &&& q) p = true from (withinB_iff _ _).2 fun i _ h => by rw [BitVec.getLsbD_and] at h; exact (Bool.and_eq_true _ _ ▸ h).1] at this
  · have := within_any (p &&& q) q W
    rwa [show withinB (p &&& q) q = true from (withinB_iff _ _).2 fun i _ h => by rw [BitVec.getLsbD_and] at h; exact (Bool.and_eq_true _ _ ▸ h).2] at this
  · have := within_any p (p ||| q) W
    rwa [show withinB p (p ||| q) = true from (withinB_iff _ _).2 fun i _ h => by rw [BitVec.getLsbD_or, h]; rfl] at this
  · exact within_any 1#64 3#64 W
  · exact within_any 4#64 3#64 W

set_option maxHeartbeats 2000000 in
theorem walk (p q : BitVec 64) (w : World) (hL : TabL w) :
    Calls Tryd.prog 5 #[.int .u64 (p.toNat : Int), .int .u64 (q.toNat : Int)] w fun e w' => e = .returned (.bool true) ∧ Below w.heap.size w w' := by
  obtain ⟨X, Y, A, O, S1, S2, V, hx, hy, ha, ho, hv, t1, t2, p1, p2, w1, w2, w3, w4, w5, w6⟩ := met p q
  have T1 := hide t1
  have T2 := hide t2
  have P1 := hide p1
  have P2 := hide p2
  have W1 := hide w1
  have W2 := hide w2
  have W3 := hide w3
  have W4 := hide w4
  have W5 := hide w5
  have W6 := hide w6
  clear t1 t2 p1 p2 w1 w2 w3 w4 w5 w6
  generalize (p.toNat : Int) = P at *
  generalize (q.toNat : Int) = Q at *
  go_enter Tryd.func5, Tryd.ntmps5
  go_wp2_with (first
    | (go_at_call 11; (with_reducible first | refine (T1.out _ ?_).mono ?_ | refine (T2.out _ ?_).mono ?_); (refine hL.behind ?_; repeat (first | with_reducible assumption | with_reducible exact Below.refl _ _ | with_reducible refine Below.drew ?_ | with_reducible refine below_drewN ?_ _ | with_reducible refine bw_alloc ?_ _ | (with_reducible refine bw_set ?_ ?_ _; focus (dsimp only; omega)) | (with_reducible apply bw_behind; with_reducible assumption))); rintro e w1 ⟨rfl, hb1⟩)
    | (go_at_call 15; (with_reducible first | refine (P1.out _ ?_).mono ?_ | refine (P2.out _ ?_).mono ?_); (refine hL.behind ?_; repeat (first | with_reducible assumption | with_reducible exact Below.refl _ _ | with_reducible refine Below.drew ?_ | with_reducible refine below_drewN ?_ _ | with_reducible refine bw_alloc ?_ _ | (with_reducible refine bw_set ?_ ?_ _; focus (dsimp only; omega)) | (with_reducible apply bw_behind; with_reducible assumption))); rintro e w1 ⟨rfl, hb1⟩)
    | (go_at_call 9; (with_reducible first | refine (W1.out _).mono ?_ | refine (W2.out _).mono ?_ | refine (W3.out _).mono ?_ | refine (W4.out _).mono ?_ | refine (W5.out _).mono ?_ | refine (W6.out _).mono ?_); rintro e w1 ⟨rfl, rfl⟩))
  all_goals
    go_ret
    refine ⟨by first | rfl | simp, ?_⟩
    repeat (first | with_reducible assumption | with_reducible exact Below.refl _ _ | with_reducible refine Below.drew ?_ | with_reducible refine below_drewN ?_ _ | with_reducible refine bw_alloc ?_ _ | (with_reducible refine bw_set ?_ ?_ _; focus (dsimp only; omega)) | (with_reducible apply bw_behind; with_reducible assumption))

open Go.ChangeShapes Go.WideShapes Go.ChangeAt
theorem walks : Frame.WalksLaid [("mintmark/perm.letters", Rows.laid_mintmark_perm_letters)] 5 Tryd.f5 := by
  intro H enc W base args ds ps hL hval hA
  rw [Tryd.params5] at hA hval
  obtain ⟨v0, v1, d0, d1, p0, p1, hargs, rfl, rfl, h0, h1⟩ := trodAll_two hA
  obtain rfl : args = #[v0, v1] := by cases args; simp_all
  obtain ⟨x0, rfl, rfl, rfl, w0⟩ := open_int Tryd.underlying22 (hval 0 22 v0 rfl rfl) h0
  obtain ⟨x1, rfl, rfl, rfl, w1⟩ := open_int Tryd.underlying22 (hval 1 22 v1 rfl rfl) h1
  obtain ⟨X0, rfl⟩ := Frame.wf_u64 w0
  obtain ⟨X1, rfl⟩ := Frame.wf_u64 w1
  exact walk X0 X1 W (tabL_of_laid hL)
set_option maxRecDepth 100000 in
theorem said : Rows.PermBackSaid :=
  OpenClaim.holds_of_wide 5 Tryd.f5 rfl rfl rfl rfl rfl rfl rfl ⟨rfl, rfl, rfl, rfl, rfl⟩ rfl rfl rfl rfl rfl (by kernel_rfl) Tryd.func5 (by kernel_rfl)
    (of_decide_eq_true (by kernel_rfl)) (by unfold Func.isWrapper; first | (rw [if_pos (by decide +kernel)]; kernel_rfl) | (rw [if_neg (by decide +kernel)]; exact ⟨rfl, rfl⟩))
    (fun os started H enc _ => Frame.liftLaid [("mintmark/perm.letters", Rows.laid_mintmark_perm_letters)] os started H enc _ _ Rows.permBackSpec 4 (by kernel_rfl) Tryd.func5 Tryd.underlying4 (by kernel_rfl) rfl (by kernel_rfl)
      (fun ds h => by match ds, h with | [_, _], _ => exact ⟨rfl, rfl, rfl⟩)
      (ChangeSpec.witness_shaped (enc := enc) (C := Tryd.checked) (os := os) (X := fun w _ => laidMetH Tryd.prog [("mintmark/perm.letters", Rows.laid_mintmark_perm_letters)] w) false (World.doorLaid Tryd.prog 400 os) #[.int .u64 0, .int .u64 0] 8 rfl (World.shaped_of_RefB (by kernel_rfl) (by kernel_rfl)) (by kernel_rfl) (by kernel_rfl) (by kernel_rfl) (door_met1 os _)) walks)
set_option maxRecDepth 100000 in
theorem proved : Rows.PermBackCardSaid :=
  Claim7.holds_tied_plain_at .later [] [.data] true _ false said (fun _ h => by cases h) (by kernel_rfl) (fun _ h => by cases h) permBack_row_tie rfl ⟨rfl, rfl⟩ (by kernel_rfl) rfl
    (fun f fn hf hfn => by
      obtain rfl : f = 5 := Option.some.inj ((show Tryd.prog.funcNamed "mintmark/mintmarklaw04.PermBack" = some 5 by kernel_rfl).symm.trans hf) |>.symm
      obtain rfl : fn = Tryd.f5 := (Option.some.inj (Tryd.func5.symm.trans hfn)).symm
      exact ⟨by kernel_rfl, fun j t ht => by
        rw [Tryd.params5] at ht
        have hm : t ∈ [22] := by have := Array.mem_of_getElem? ht; simp at this; simp; omega
        have hall : ([22].all fun u => !Tryd.prog.wantsStandIn u) = true := by kernel_rfl
        exact (show Tryd.prog.wantsStandIn t = false by simpa using List.all_eq_true.1 hall t hm)⟩)
    (by kernel_rfl)
end Go.Proofs.YteakjajnaoiilaaDoor.PermBack
