/-
  PermNeeds holds: for every kind, p and turn the law returns true and turns nothing that was there, where the tables hold what the program's text lays.
-/
import Derived.Test.YteakjajnaoiilaaDoorPermBackProof
import Derived.Laws.DeepStrings4
namespace Go.Proofs.YteakjajnaoiilaaDoor.PermNeeds
open Go.RowKit Words PermMath PermBack

theorem extract_bytes (l : List Nat) (i j : Nat) : (bytesOf l).extract i j = bytesOf ((l.take j).drop i) := by
  apply ByteArray.ext
  rw [ByteArray.data_extract]
  unfold bytesOf
  simp [List.extract_toArray, List.extract_eq_take_drop, List.drop_take]
theorem add_bytes (a b : List Nat) (h : a.length + b.length ≤ 1000) (W : World) : (Op.stringOp .add (bytesOf a) (bytesOf b)).run Tryd.prog W = .ok (.string (bytesOf (a ++ b))) W := by
  rw [run_string_add_sum _ _ _ (by rw [bytesOf_size, bytesOf_size]; omega), bytesOf_append]

structure Met (k P T X N : Int) (S : ByteArray) : Prop where
  x : bits .and .u64 P 511 = X
  n0 : (N == 0) = false
  a1 : ∀ W, TabA W → Calls Tryd.prog 7 #[.int .i64 1] W (Same (.int .u64 1) W)
  a2 : ∀ W, TabA W → Calls Tryd.prog 7 #[.int .i64 2] W (Same (.int .u64 2) W)
  a3 : ∀ W, TabA W → Calls Tryd.prog 7 #[.int .i64 3] W (Same (.int .u64 9) W)
  a4 : ∀ W, TabA W → Calls Tryd.prog 7 #[.int .i64 4] W (Same (.int .u64 18) W)
  a5 : ∀ W, TabA W → Calls Tryd.prog 7 #[.int .i64 k] W (Same (.int .u64 N) W)
  w1 : ∀ W, Calls Tryd.prog 9 #[.int .u64 1, .int .u64 9] W (Same (.bool true) W)
  w2 : ∀ W, Calls Tryd.prog 9 #[.int .u64 2, .int .u64 18] W (Same (.bool true) W)
  w3 : ∀ W, Calls Tryd.prog 9 #[.int .u64 N, .int .u64 511] W (Same (.bool true) W)
  t1 : ∀ W, TabL W → Calls Tryd.prog 11 #[.int .u64 X] W (Makes (.string S) W)
/-- A text that is not empty: its length, the place where it is turned, its parts. -/
structure Turn (T X : Int) (S A B C D E : ByteArray) (R Q K n : Int) : Prop where
  size : (S.size : Int) = n
  ne : (S.toList == []) = false
  em : S.toList.isEmpty = false
  r : T.tmod n = R
  q : R + n = Q
  k1 : Q.tmod n = K
  k2 : Q % n = K
  n1 : 1 ≤ n
  n2 : n ≤ 10
  r1 : -10 ≤ R
  r2 : R ≤ 10
  q1 : 0 ≤ Q
  q2 : Q ≤ 20
  kk1 : 0 ≤ K
  kk2 : K < n
  a : ∀ W, (Instr.slice 9 (.string S) (some (.int .i64 K)) none none).run Tryd.prog W = .ok (.string A) W
  b : ∀ W, (Instr.slice 9 (.string S) none (some (.int .i64 K)) none).run Tryd.prog W = .ok (.string B) W
  c : ∀ W, (Instr.slice 9 (.string S) (some (.int .i64 K)) (some (.int .i64 (K + 1))) none).run Tryd.prog W = .ok (.string C) W
  d : ∀ W, (Op.stringOp .add A B).run Tryd.prog W = .ok (.string D) W
  e : ∀ W, (Op.stringOp .add S C).run Tryd.prog W = .ok (.string E) W
  p1 : ∀ W, TabL W → Calls Tryd.prog 15 #[.string D] W (Makes (.tuple #[.int .u64 X, .bool true]) W)
  p2 : ∀ W, TabL W → Calls Tryd.prog 15 #[.string E] W (Makes (.tuple #[.int .u64 0, .bool false]) W)
theorem parse_bytes (l : List Nat) (hl : ∀ c ∈ l, c < 128) (W : World) (h : TabL W) : Calls Tryd.prog 15 #[.string (bytesOf l)] W (Makes (parsedV (parseN l 0)) W) := by
  have := parse_any (bytesOf l) W h
  rwa [numsOf_bytesOf hl] at this
theorem turn_met (m : Nat) (hm : m < 512) (T : Int) (he : textN m ≠ []) : ∃ A B C D E R Q K n, Turn T (m : Int) (bytesOf (textN m)) A B C D E R Q K n := by
  obtain ⟨hlt, hlen⟩ := textN_lt m
  obtain ⟨l, hl⟩ : ∃ l, textN m = l := ⟨_, rfl⟩
  have hpos : 0 < l.length := by
    rw [hl] at he
    exact List.length_pos_iff.2 he
  have ht := fun k h => turn (m := m) (k := k) hm h
  rw [hl] at hlt hlen ht ⊢
  obtain ⟨R, hR⟩ : ∃ R, T.tmod (l.length : Int) = R := ⟨_, rfl⟩
  have r1 : -(l.length : Int) < R := by rw [← hR]; have := Int.lt_tmod_of_pos T (show (0 : Int) < (l.length : Int) by omega); exact this
  have r2 : R < (l.length : Int) := by rw [← hR]; exact Int.tmod_lt_of_pos T (by omega)
  have q1 : 0 ≤ R + (l.length : Int) := by omega
  obtain ⟨k, hk⟩ : ∃ k : Nat, (R + (l.length : Int)) % (l.length : Int) = (k : Int) := ⟨((R + (l.length : Int)) % (l.length : Int)).toNat, by have := Int.emod_nonneg (R + (l.length : Int)) (show (l.length : Int) ≠ 0 by omega); omega⟩
  have hkl : (k : Int) < (l.length : Int) := by rw [← hk]; exact Int.emod_lt_of_pos _ (by omega)
  have hkn : k < l.length := by omega
  obtain ⟨t1, t2⟩ := ht k hkn
  have hs := bytesOf_size l
  have hd : ∀ c ∈ l.drop k ++ l.take k, c < 128 := fun c hc => by
    rcases List.mem_append.1 hc with h | h
    · exact hlt c (List.mem_of_mem_drop h)
    · exact hlt c (List.mem_of_mem_take h)
  have he2 : ∀ c ∈ l ++ (l.drop k).take 1, c < 128 := fun c hc => by
    rcases List.mem_append.1 hc with h | h
    · exact hlt c h
    · exact hlt c (List.mem_of_mem_drop (List.mem_of_mem_take h))
  have hne : (bytesOf l).toList ≠ [] := fun h => by
    have h1 : (bytesOf l).toList.length = l.length := by
      rw [ByteArray.toList_eq]; simp [bytesOf]
    rw [h] at h1
    simp at h1
    omega
  refine ⟨bytesOf (l.drop k), bytesOf (l.take k), bytesOf ((l.drop k).take 1), bytesOf (l.drop k ++ l.take k), bytesOf (l ++ (l.drop k).take 1), R, R + (l.length : Int), (k : Int), (l.length : Int),
    by rw [hs], ?_, ?_, hR, rfl, ?_, hk, by omega, by omega, by omega, by omega, q1, by omega, by omega, hkl, ?_, ?_, ?_, ?_, ?_, fun W h => ?_, fun W h => ?_⟩
  · simpa using hne
  · simpa using hne
  · rw [Int.tmod_eq_emod_of_nonneg q1, hk]
  · intro W
    rw [run_slice_string_l _ _ _ rfl _ _ (by omega) (by omega), Int.toNat_natCast, hs, extract_bytes, List.take_of_length_le (Nat.le_refl _)]
  · intro W
    rw [run_slice_string_h _ _ _ rfl _ _ (by omega) (by omega), Int.toNat_natCast, extract_bytes, List.drop_zero]
  · intro W
    rw [run_slice_string W _ _ _ _ _ _ rfl (by omega) (by omega) (by omega), extract_bytes]
    rw [show ((k : Int)).toNat = k by omega, show ((k : Int) + 1).toNat = k + 1 by omega, List.drop_take]
    simp
  · exact fun W => add_bytes _ _ (by rw [List.length_drop, List.length_take]; omega) W
  · exact fun W => add_bytes _ _ (by have := List.length_take_le 1 (l.drop k); omega) W
  · have := parse_bytes _ hd W h
    rwa [t1] at this
  · have := parse_bytes _ he2 W h
    rwa [t2] at this
theorem met (k : Int) (p : BitVec 64) (T : Int) : Met k (p.toNat : Int) T ((p &&& 511#64).toNat : Int) (needsI k) (bytesOf (textN (p &&& 511#64).toNat)) := by
  refine ⟨and_bv p 511#64, ?_, fun W h => needs_any 1 W h, fun W h => needs_any 2 W h, fun W h => needs_any 3 W h, fun W h => needs_any 4 W h, fun W h => needs_any k W h, fun W => within_any 1#64 9#64 W, fun W => within_any 2#64 18#64 W, fun W => ?_, fun W h => text_any _ W h⟩
  · rcases kinds k with rfl | rfl | rfl | rfl | rfl | h
    · rfl
    · rfl
    · rfl
    · rfl
    · rfl
    · have hv : needsI k = 511 := by unfold needsI; repeat' (rw [if_neg (by omega)])
      rw [hv]; rfl
  · rcases kinds k with rfl | rfl | rfl | rfl | rfl | h
    · exact within_all 4#64 W
    · exact within_all 1#64 W
    · exact within_all 2#64 W
    · exact within_all 9#64 W
    · exact within_all 18#64 W
    · have hv : needsI k = 511 := by unfold needsI; repeat' (rw [if_neg (by omega)])
      rw [hv]
      exact within_all 511#64 W

theorem behind_parse {S : ByteArray} {v : Value} {w0 : World} (c : ∀ W, TabL W → Calls Tryd.prog 15 #[.string S] W (Makes v W)) (hT : TabL w0) (y : Behind w0.heap.size w0) :
    Calls Tryd.prog 15 #[.string S] y.world fun e w'' => e = .returned v ∧ ∃ z : Behind w0.heap.size w0, w'' = z.world :=
  (c _ (hT.behind y.below)).mono fun _ _ ⟨he, hb⟩ => ⟨he, ⟨_, y.below.trans (hb.mono y.below.size)⟩, rfl⟩

set_option maxHeartbeats 2000000 in
theorem walk (k : Int) (p : BitVec 64) (t : Int) (w : World) (hT : TabA w ∧ TabL w) :
    Calls Tryd.prog 6 #[.int .i64 k, .int .u64 (p.toNat : Int), .int .i64 t] w fun e w' => e = .returned (.bool true) ∧ Below w.heap.size w w' := by
  obtain ⟨hA, hL⟩ := hT
  obtain ⟨hx, hn0, a1, a2, a3, a4, a5, w1, w2, w3, t1⟩ := met k p t
  have A1 := hide a1
  have A2 := hide a2
  have A3 := hide a3
  have A4 := hide a4
  have A5 := hide a5
  have W1 := hide w1
  have W2 := hide w2
  have W3 := hide w3
  clear a1 a2 a3 a4 a5 w1 w2 w3
  have hm := low_lt p
  have HTM := hide (fun h => turn_met (p &&& 511#64).toNat hm t h)
  obtain ⟨m, hmm⟩ : ∃ m, (p &&& 511#64).toNat = m := ⟨_, rfl⟩
  rw [hmm] at hx t1 hm HTM
  clear hmm
  generalize needsI k = N at *
  generalize (p.toNat : Int) = P at *
  by_cases he : textN m = []
  · obtain rfl := nil_text hm he
    rw [he] at t1
    have T1 : Hid (∀ W, TabL W → Calls Tryd.prog 11 #[.int .u64 0] W (Makes (.string ⟨#[]⟩) W)) := hide t1
    have hx' : bits .and .u64 P 511 = 0 := hx
    clear t1 he HTM hm hx
    go_enter Tryd.func6, Tryd.ntmps6
    go_wp2_with (first
      | (go_at_call 7; (with_reducible first | refine (A1.out _ ?_).mono ?_ | refine (A2.out _ ?_).mono ?_ | refine (A3.out _ ?_).mono ?_ | refine (A4.out _ ?_).mono ?_ | refine (A5.out _ ?_).mono ?_); (refine hA.behind ?_; repeat (first | with_reducible assumption | with_reducible exact Below.refl _ _ | with_reducible refine Below.drew ?_ | with_reducible refine below_drewN ?_ _ | with_reducible refine bw_alloc ?_ _ | (with_reducible refine bw_set ?_ ?_ _; focus (dsimp only; omega)) | (with_reducible apply bw_behind; with_reducible assumption))); rintro e w1 ⟨rfl, rfl⟩)
      | (go_at_call 9; (with_reducible first | refine (W1.out _).mono ?_ | refine (W2.out _).mono ?_ | refine (W3.out _).mono ?_); rintro e w1 ⟨rfl, rfl⟩)
      | (go_at_call 11; (with_reducible refine (T1.out _ ?_).mono ?_); (refine hL.behind ?_; repeat (first | with_reducible assumption | with_reducible exact Below.refl _ _ | with_reducible refine Below.drew ?_ | with_reducible refine below_drewN ?_ _ | with_reducible refine bw_alloc ?_ _ | (with_reducible refine bw_set ?_ ?_ _; focus (dsimp only; omega)) | (with_reducible apply bw_behind; with_reducible assumption))); rintro e w1 ⟨rfl, hb1⟩))
    all_goals
      go_ret
      refine ⟨by first | rfl | simp, ?_⟩
      repeat (first | with_reducible assumption | with_reducible exact Below.refl _ _ | with_reducible refine Below.drew ?_ | with_reducible refine below_drewN ?_ _ | with_reducible refine bw_alloc ?_ _ | (with_reducible refine bw_set ?_ ?_ _; focus (dsimp only; omega)) | (with_reducible apply bw_behind; with_reducible assumption))
  · obtain ⟨A, B, C, D, E, R, Q, K, n, hz, hne, hem, hr, hq, hk1, hk2, n1, n2, r1, r2, q1, q2, kk1, kk2, ha, hb, hc, hd, hee, p1, p2⟩ := HTM.out he
    have T1 := hide t1
    have P1 := hide p1
    have P2 := hide p2
    clear t1 p1 p2 HTM he hm
    generalize bytesOf (textN m) = S at *
    generalize (m : Int) = X at *
    go_enter Tryd.func6, Tryd.ntmps6
    go_wp2_with (first
      | (go_at_call 7; (with_reducible first | refine (A1.out _ ?_).mono ?_ | refine (A2.out _ ?_).mono ?_ | refine (A3.out _ ?_).mono ?_ | refine (A4.out _ ?_).mono ?_ | refine (A5.out _ ?_).mono ?_); (refine hA.behind ?_; repeat (first | with_reducible assumption | with_reducible exact Below.refl _ _ | with_reducible refine Below.drew ?_ | with_reducible refine below_drewN ?_ _ | with_reducible refine bw_alloc ?_ _ | (with_reducible refine bw_set ?_ ?_ _; focus (dsimp only; omega)) | (with_reducible apply bw_behind; with_reducible assumption))); rintro e w1 ⟨rfl, rfl⟩)
      | (go_at_call 9; (with_reducible first | refine (W1.out _).mono ?_ | refine (W2.out _).mono ?_ | refine (W3.out _).mono ?_); rintro e w1 ⟨rfl, rfl⟩)
      | (go_at_call 11; (with_reducible refine (T1.out _ ?_).mono ?_); (refine hL.behind ?_; repeat (first | with_reducible assumption | with_reducible exact Below.refl _ _ | with_reducible refine Below.drew ?_ | with_reducible refine below_drewN ?_ _ | with_reducible refine bw_alloc ?_ _ | (with_reducible refine bw_set ?_ ?_ _; focus (dsimp only; omega)) | (with_reducible apply bw_behind; with_reducible assumption))); rintro e w0 ⟨rfl, hb0⟩))
    have hL0 := hL.behind hb0
    have hsome := Behind.any w0
    refine wp_region_behind w0 (by kernel_rfl) (by kernel_rfl) (Below.refl _ _) ?_
    repeat (go_big_quiet_step ((go_at_call 15; with_reducible exact behind_parse P1.out hL0 _)))
    refine wpQuiet_nil ?_
    rintro _ ⟨y, rfl⟩
    obtain ⟨w2, hb2, hw2⟩ : ∃ W, Below w0.heap.size w0 W ∧ y.world = W := ⟨_, y.below, rfl⟩
    rw [hw2]
    clear hw2 y hsome
    go_wp2_with (first
      | (go_at_call 15; (with_reducible refine (P2.out _ (hL0.behind hb2)).mono ?_); rintro e w1 ⟨rfl, hb1⟩))
    all_goals
      go_ret
      refine ⟨by first | rfl | simp, ?_⟩
      repeat (first | with_reducible assumption | with_reducible exact Below.refl _ _ | with_reducible refine Below.drew ?_ | with_reducible refine below_drewN ?_ _ | with_reducible refine bw_alloc ?_ _ | (with_reducible refine bw_set ?_ ?_ _; focus (dsimp only; omega)) | (with_reducible apply bw_behind; with_reducible assumption))

open Go.ChangeShapes Go.WideShapes Go.ChangeAt
theorem walks : Frame.WalksLaid [("mintmark/perm.accesses", Rows.laid_mintmark_perm_accesses), ("mintmark/perm.letters", Rows.laid_mintmark_perm_letters)] 6 Tryd.f6 := by
  intro H enc W base args ds ps hL hval hA
  rw [Tryd.params6] at hA hval
  obtain ⟨v0, v1, v2, d0, d1, d2, p0, p1, p2, hargs, rfl, rfl, h0, h1, h2⟩ := trodAll_three hA
  obtain rfl : args = #[v0, v1, v2] := by cases args; simp_all
  obtain ⟨x0, rfl, rfl, rfl, w0⟩ := open_int Tryd.underlying3 (hval 0 3 v0 rfl rfl) h0
  obtain ⟨x1, rfl, rfl, rfl, w1⟩ := open_int Tryd.underlying22 (hval 1 22 v1 rfl rfl) h1
  obtain ⟨x2, rfl, rfl, rfl, w2⟩ := open_int Tryd.underlying3 (hval 2 3 v2 rfl rfl) h2
  obtain ⟨X1, rfl⟩ := Frame.wf_u64 w1
  exact walk x0 X1 x2 W (tabs_of_laid hL)
set_option maxRecDepth 100000 in
theorem said : Rows.PermNeedsSaid :=
  OpenClaim.holds_of_wide 6 Tryd.f6 rfl rfl rfl rfl rfl rfl rfl ⟨rfl, rfl, rfl, rfl, rfl⟩ rfl rfl rfl rfl rfl (by kernel_rfl) Tryd.func6 (by kernel_rfl)
    (of_decide_eq_true (by kernel_rfl)) (by unfold Func.isWrapper; first | (rw [if_pos (by decide +kernel)]; kernel_rfl) | (rw [if_neg (by decide +kernel)]; exact ⟨rfl, rfl⟩))
    (fun os started H enc _ => Frame.liftLaid [("mintmark/perm.accesses", Rows.laid_mintmark_perm_accesses), ("mintmark/perm.letters", Rows.laid_mintmark_perm_letters)] os started H enc _ _ Rows.permNeedsSpec 4 (by kernel_rfl) Tryd.func6 Tryd.underlying4 (by kernel_rfl) rfl (by kernel_rfl)
      (fun ds h => by match ds, h with | [_, _, _], _ => exact ⟨rfl, rfl, rfl⟩)
      (ChangeSpec.witness_shaped (enc := enc) (C := Tryd.checked) (os := os) (X := fun w _ => laidMetH Tryd.prog [("mintmark/perm.accesses", Rows.laid_mintmark_perm_accesses), ("mintmark/perm.letters", Rows.laid_mintmark_perm_letters)] w) false (World.doorLaid Tryd.prog 400 os) #[.int .i64 0, .int .u64 0, .int .i64 0] 8 rfl (World.shaped_of_RefB (by kernel_rfl) (by kernel_rfl)) (by kernel_rfl) (by kernel_rfl) (by kernel_rfl) (door_met2 os _)) walks)
set_option maxRecDepth 100000 in
theorem proved : Rows.PermNeedsCardSaid :=
  Claim7.holds_tied_plain_at .later [] [.data, .data] true _ false said (fun _ h => by cases h) (by kernel_rfl) (fun _ h => by cases h) permNeeds_row_tie rfl ⟨rfl, rfl⟩ (by kernel_rfl) rfl
    (fun f fn hf hfn => by
      obtain rfl : f = 6 := Option.some.inj ((show Tryd.prog.funcNamed "mintmark/mintmarklaw04.PermNeeds" = some 6 by kernel_rfl).symm.trans hf) |>.symm
      obtain rfl : fn = Tryd.f6 := (Option.some.inj (Tryd.func6.symm.trans hfn)).symm
      exact ⟨by kernel_rfl, fun j t ht => by
        rw [Tryd.params6] at ht
        have hm : t ∈ [3, 22] := by have := Array.mem_of_getElem? ht; simp at this; simp; first | omega | grind
        have hall : ([3, 22].all fun u => !Tryd.prog.wantsStandIn u) = true := by kernel_rfl
        exact (show Tryd.prog.wantsStandIn t = false by simpa using List.all_eq_true.1 hall t hm)⟩)
    (by kernel_rfl)
end Go.Proofs.YteakjajnaoiilaaDoor.PermNeeds
