/-
  What the document's own answer of layer 3 (package mintmarkref03), Decode, is.
-/
import Derived.Test.YtnbfjaocakghkaaDoorRef03Walks
import Derived.Test.YtnbfjaocakghkaaDoorNear03
namespace Go.Proofs.YtnbfjaocakghkaaDoor
open Go.RowKit Words BoundsMath

set_option maxHeartbeats 1000000 in
theorem rdecode_bad (B T E A : Int) (h : ¬ (B < 16384 ∧ T < 4096 ∧ E ≤ 37 ∧ A < 281474976710656)) (w : World) :
    Calls Tryd.prog 39 #[.agg #[.int .u64 B, .int .u64 T, .int .u64 E], .int .u64 A] w
      (Makes (.tuple #[.agg #[.int .u64 0, .int .u64 0], .bool false]) w) := by
  have key : (¬ B < 16384) ∨ (B < 16384 ∧ ¬ T < 4096) ∨ (B < 16384 ∧ T < 4096 ∧ ¬ E ≤ 37) ∨ (B < 16384 ∧ T < 4096 ∧ E ≤ 37 ∧ ¬ A < 281474976710656) := by omega
  clear h
  have SS := cell_same
  have LB' := ltB_add
  have LS := ltB_self
  have LA' := alloc_reads
  have LH := alloc_holds
  rcases key with h1 | ⟨h1, h2⟩ | ⟨h1, h2, h3⟩ | ⟨h1, h2, h3, h4⟩
  all_goals
    go_enter Tryd.func39, Tryd.ntmps39
    go_wp2
    refine bodyPost_ret (v := .tuple #[.agg #[.int .u64 0, .int .u64 0], .bool false]) (by simp (maxDischargeDepth := 4) [results, Tryd.results39, go_sem, *]) rfl ?_
    refine ⟨rfl, ?_⟩
    repeat (first | with_reducible assumption | with_reducible exact Below.refl _ _ | with_reducible refine Below.drew ?_ | with_reducible refine below_drewN ?_ _ | with_reducible refine bw_alloc ?_ _ | (with_reducible refine bw_set ?_ ?_ _; focus (dsimp only; omega)) | (with_reducible apply bw_behind; with_reducible assumption))

structure RDM (b t e a : Nat) (B T E A X T1 T2 N0 N Q Q1 Q2 Q3 K LA BS BN TX RB RT : Int) : Prop where
  exp : ∀ W, Calls Tryd.prog 44 #[.int .u64 E] W (Quiet (.int .u64 X) W)
  bB : B < 16384
  bT : T < 4096
  bE : E ≤ 37
  bA : A < 281474976710656
  e0 : 0 ≤ E
  x0 : 0 ≤ X
  x64 : X ≤ 64
  t1 : IntKind.u64.wrap (T + 16384) = T1
  t2 : IntKind.u64.wrap (T1 - B) = T2
  n0 : T2 % 4096 = N0
  n0t : T2.tmod 4096 = N0
  q : A / 2 ^ X.toNat = Q
  q1 : IntKind.u64.wrap (Q + 16384) = Q1
  q2 : IntKind.u64.wrap (Q1 - B) = Q2
  q3 : IntKind.u64.wrap (Q2 + 4096) = Q3
  k : Q3 % 16384 = K
  kt : Q3.tmod 16384 = K
  la : IntKind.u64.wrap (Q + 4096) = LA
  bs : IntKind.u64.wrap (LA - K) = BS
  bn : IntKind.u64.wrap (BS + N) = BN
  tx : 281474976710656 / 2 ^ X.toNat = TX
  rb : IntKind.u64.wrap (BS * 2 ^ X.toNat) = RB
  rt : IntKind.u64.wrap (BN * 2 ^ X.toNat) = RT
  eb : B = (b : Int)
  et : T = (t : Int)
  ee : E = (e : Int)
  ea : A = (a : Int)
  back : LA < K ↔ ¬ backN b e a ≤ a / 2 ^ (e - 1) + 4096
  zero : e = 0 → N = N0
  more : e ≠ 0 → IntKind.u64.wrap (N0 + 4096) = N
  top : backN b e a ≤ a / 2 ^ (e - 1) + 4096 → (TX < BN ↔ ¬ (baseN b e a + lenN b t e) * 2 ^ (e - 1) ≤ 281474976710656)
  base : backN b e a ≤ a / 2 ^ (e - 1) + 4096 → (baseN b e a + lenN b t e) * 2 ^ (e - 1) ≤ 281474976710656 → RB = ((baseN b e a * 2 ^ (e - 1) : Nat) : Int) ∧ RT = (((baseN b e a + lenN b t e) * 2 ^ (e - 1) : Nat) : Int)

theorem rdm_met (b t e a : Nat) (h : goodF b t e a) : ∃ B T E A X T1 T2 N0 N Q Q1 Q2 Q3 K LA BS BN TX RB RT, RDM b t e a B T E A X T1 T2 N0 N Q Q1 Q2 Q3 K LA BS BN TX RB RT := by
  obtain ⟨hb, ht, he, ha⟩ := h
  have hpos := Nat.two_pow_pos (e - 1)
  obtain ⟨q, hqe⟩ : ∃ q, a / 2 ^ (e - 1) = q := ⟨_, rfl⟩
  have hqa : q ≤ a := by rw [← hqe]; exact Nat.div_le_self _ _
  have hw := fun n : Int => IntKind.wrap_u64 n
  have hbk : backN b e a = (q + 4096 + 16384 - b) % 16384 := by unfold backN; rw [hqe]
  have iq : (a : Int) / 2 ^ ((e - 1 : Nat) : Int).toNat = ((a / 2 ^ (e - 1) : Nat) : Int) := by simp
  have it : (281474976710656 : Int) / 2 ^ ((e - 1 : Nat) : Int).toNat = ((281474976710656 / 2 ^ (e - 1) : Nat) : Int) := by simp
  refine ⟨b, t, e, a, ((e - 1 : Nat) : Int), ((t + 16384 : Nat) : Int), ((t + 16384 - b : Nat) : Int), (((t + 16384 - b) % 4096 : Nat) : Int), ((lenN b t e : Nat) : Int), (q : Int), ((q + 16384 : Nat) : Int), ((q + 16384 - b : Nat) : Int), ((q + 16384 - b + 4096 : Nat) : Int),
    ((backN b e a : Nat) : Int), ((q + 4096 : Nat) : Int), _, _, ((281474976710656 / 2 ^ (e - 1) : Nat) : Int), _, _,
    ⟨fun W => rexp_any e (by omega) W, by omega, by omega, by omega, by omega, by omega, by omega, by omega, by rw [hw]; omega, by rw [hw]; omega, by omega, by rw [Int.tmod_eq_emod_of_nonneg (by omega)]; omega,
      by rw [iq, hqe], by rw [hw]; omega, by rw [hw]; omega, by rw [hw]; omega, by rw [hbk]; omega, by rw [Int.tmod_eq_emod_of_nonneg (by omega), hbk]; omega, by rw [hw]; omega, rfl, rfl, it, rfl, rfl, rfl, rfl, rfl, rfl, by rw [hqe]; omega, ?_, ?_, ?_, ?_⟩⟩
  · intro h0; unfold lenN; rw [if_pos h0]; omega
  · intro h0; unfold lenN; rw [if_neg h0, hw]; omega
  all_goals
    intro hk
    rw [hqe] at hk
    have hB : IntKind.u64.wrap (((q + 4096 : Nat) : Int) - ((backN b e a : Nat) : Int)) = ((baseN b e a : Nat) : Int) := by
      rw [hw]; unfold baseN; rw [hqe]; omega
    have hbase : baseN b e a ≤ q + 4096 := by unfold baseN; rw [hqe]; omega
    have hlen : lenN b t e ≤ 8191 := by unfold lenN; split <;> omega
    have hBL : IntKind.u64.wrap (((baseN b e a : Nat) : Int) + ((lenN b t e : Nat) : Int)) = ((baseN b e a + lenN b t e : Nat) : Int) := by rw [hw]; omega
    rw [hB, hBL]
  · rw [Int.ofNat_lt, Nat.lt_iff_add_one_le, ← Nat.not_lt, Nat.lt_iff_add_one_le, Nat.add_le_add_iff_right, Nat.le_div_iff_mul_le hpos]
  · intro htop
    have c1 : ((baseN b e a : Nat) : Int) * 2 ^ ((e - 1 : Nat) : Int).toNat = ((baseN b e a * 2 ^ (e - 1) : Nat) : Int) := by simp
    have c2 : ((baseN b e a + lenN b t e : Nat) : Int) * 2 ^ ((e - 1 : Nat) : Int).toNat = (((baseN b e a + lenN b t e) * 2 ^ (e - 1) : Nat) : Int) := by simp
    have m3 : baseN b e a * 2 ^ (e - 1) ≤ (baseN b e a + lenN b t e) * 2 ^ (e - 1) := Nat.mul_le_mul_right _ (by omega)
    rw [c1, c2, hw, hw]
    omega

set_option maxHeartbeats 1000000 in
theorem rwalk_back0 (b t e a : Nat) (B T A X T1 T2 N0 Q Q1 Q2 Q3 K LA BS BN TX RB RT : Int) (hm : RDM b t e a B T 0 A X T1 T2 N0 N0 Q Q1 Q2 Q3 K LA BS BN TX RB RT) (f0 : LA < K) (w : World) :
    Calls Tryd.prog 39 #[.agg #[.int .u64 B, .int .u64 T, .int .u64 0], .int .u64 A] w
      (Makes (.tuple #[.agg #[.int .u64 0, .int .u64 0], .bool false]) w) := by
  have C1 := hide hm.exp
  have g0 := hm.bB
  have g1 := hm.bT
  have g2 := hm.bE
  have g3 := hm.bA
  have g4 := hm.e0
  have g5 := hm.x0
  have g6 := hm.x64
  have g7 := hm.t1
  have g8 := hm.t2
  have g9 := hm.n0
  have g10 := hm.n0t
  have g11 := hm.q
  have g12 := hm.q1
  have g13 := hm.q2
  have g14 := hm.q3
  have g15 := hm.k
  have g16 := hm.kt
  have g17 := hm.la
  have g18 := hm.bs
  have g19 := hm.bn
  have g20 := hm.tx
  have g21 := hm.rb
  have g22 := hm.rt
  clear hm
  have SS := cell_same
  have LB' := ltB_add
  have LS := ltB_self
  have LA' := alloc_reads
  have LH := alloc_holds
  go_enter Tryd.func39, Tryd.ntmps39
  go_wp2_with ((go_at_call 44; (with_reducible refine (C1.out _).mono ?_); rintro e w' ⟨rfl, n1, rfl⟩))
  refine bodyPost_ret (v := .tuple #[.agg #[.int .u64 0, .int .u64 0], .bool false]) (by simp (maxDischargeDepth := 4) [results, Tryd.results39, go_sem, *]) rfl ?_
  refine ⟨rfl, ?_⟩
  repeat (first | with_reducible assumption | with_reducible exact Below.refl _ _ | with_reducible refine Below.drew ?_ | with_reducible refine below_drewN ?_ _ | with_reducible refine bw_alloc ?_ _ | (with_reducible refine bw_set ?_ ?_ _; focus (dsimp only; omega)) | (with_reducible apply bw_behind; with_reducible assumption))

set_option maxHeartbeats 1000000 in
theorem rwalk_top0 (b t e a : Nat) (B T A X T1 T2 N0 Q Q1 Q2 Q3 K LA BS BN TX RB RT : Int) (hm : RDM b t e a B T 0 A X T1 T2 N0 N0 Q Q1 Q2 Q3 K LA BS BN TX RB RT) (f0 : ¬ LA < K) (f1 : TX < BN) (w : World) :
    Calls Tryd.prog 39 #[.agg #[.int .u64 B, .int .u64 T, .int .u64 0], .int .u64 A] w
      (Makes (.tuple #[.agg #[.int .u64 0, .int .u64 0], .bool false]) w) := by
  have C1 := hide hm.exp
  have g0 := hm.bB
  have g1 := hm.bT
  have g2 := hm.bE
  have g3 := hm.bA
  have g4 := hm.e0
  have g5 := hm.x0
  have g6 := hm.x64
  have g7 := hm.t1
  have g8 := hm.t2
  have g9 := hm.n0
  have g10 := hm.n0t
  have g11 := hm.q
  have g12 := hm.q1
  have g13 := hm.q2
  have g14 := hm.q3
  have g15 := hm.k
  have g16 := hm.kt
  have g17 := hm.la
  have g18 := hm.bs
  have g19 := hm.bn
  have g20 := hm.tx
  have g21 := hm.rb
  have g22 := hm.rt
  clear hm
  have SS := cell_same
  have LB' := ltB_add
  have LS := ltB_self
  have LA' := alloc_reads
  have LH := alloc_holds
  go_enter Tryd.func39, Tryd.ntmps39
  go_wp2_with ((go_at_call 44; (with_reducible refine (C1.out _).mono ?_); rintro e w' ⟨rfl, n1, rfl⟩))
  refine bodyPost_ret (v := .tuple #[.agg #[.int .u64 0, .int .u64 0], .bool false]) (by simp (maxDischargeDepth := 4) [results, Tryd.results39, go_sem, *]) rfl ?_
  refine ⟨rfl, ?_⟩
  repeat (first | with_reducible assumption | with_reducible exact Below.refl _ _ | with_reducible refine Below.drew ?_ | with_reducible refine below_drewN ?_ _ | with_reducible refine bw_alloc ?_ _ | (with_reducible refine bw_set ?_ ?_ _; focus (dsimp only; omega)) | (with_reducible apply bw_behind; with_reducible assumption))

set_option maxHeartbeats 1000000 in
theorem rwalk_ok0 (b t e a : Nat) (B T A X T1 T2 N0 Q Q1 Q2 Q3 K LA BS BN TX RB RT : Int) (hm : RDM b t e a B T 0 A X T1 T2 N0 N0 Q Q1 Q2 Q3 K LA BS BN TX RB RT) (f0 : ¬ LA < K) (f1 : ¬ TX < BN) (w : World) :
    Calls Tryd.prog 39 #[.agg #[.int .u64 B, .int .u64 T, .int .u64 0], .int .u64 A] w
      (Makes (.tuple #[.agg #[.int .u64 RB, .int .u64 RT], .bool true]) w) := by
  have C1 := hide hm.exp
  have g0 := hm.bB
  have g1 := hm.bT
  have g2 := hm.bE
  have g3 := hm.bA
  have g4 := hm.e0
  have g5 := hm.x0
  have g6 := hm.x64
  have g7 := hm.t1
  have g8 := hm.t2
  have g9 := hm.n0
  have g10 := hm.n0t
  have g11 := hm.q
  have g12 := hm.q1
  have g13 := hm.q2
  have g14 := hm.q3
  have g15 := hm.k
  have g16 := hm.kt
  have g17 := hm.la
  have g18 := hm.bs
  have g19 := hm.bn
  have g20 := hm.tx
  have g21 := hm.rb
  have g22 := hm.rt
  clear hm
  have SS := cell_same
  have LB' := ltB_add
  have LS := ltB_self
  have LA' := alloc_reads
  have LH := alloc_holds
  go_enter Tryd.func39, Tryd.ntmps39
  go_wp2_with ((go_at_call 44; (with_reducible refine (C1.out _).mono ?_); rintro e w' ⟨rfl, n1, rfl⟩))
  refine bodyPost_ret (v := .tuple #[.agg #[.int .u64 RB, .int .u64 RT], .bool true]) (by simp (maxDischargeDepth := 4) [results, Tryd.results39, go_sem, *]) rfl ?_
  refine ⟨rfl, ?_⟩
  repeat (first | with_reducible assumption | with_reducible exact Below.refl _ _ | with_reducible refine Below.drew ?_ | with_reducible refine below_drewN ?_ _ | with_reducible refine bw_alloc ?_ _ | (with_reducible refine bw_set ?_ ?_ _; focus (dsimp only; omega)) | (with_reducible apply bw_behind; with_reducible assumption))

set_option maxHeartbeats 1000000 in
theorem rwalk_back (b t e a : Nat) (B T E A X T1 T2 N0 N Q Q1 Q2 Q3 K LA BS BN TX RB RT : Int) (hm : RDM b t e a B T E A X T1 T2 N0 N Q Q1 Q2 Q3 K LA BS BN TX RB RT) (f0 : LA < K) (hE : ¬ E = 0) (hN : IntKind.u64.wrap (N0 + 4096) = N) (w : World) :
    Calls Tryd.prog 39 #[.agg #[.int .u64 B, .int .u64 T, .int .u64 E], .int .u64 A] w
      (Makes (.tuple #[.agg #[.int .u64 0, .int .u64 0], .bool false]) w) := by
  have C1 := hide hm.exp
  have g0 := hm.bB
  have g1 := hm.bT
  have g2 := hm.bE
  have g3 := hm.bA
  have g4 := hm.e0
  have g5 := hm.x0
  have g6 := hm.x64
  have g7 := hm.t1
  have g8 := hm.t2
  have g9 := hm.n0
  have g10 := hm.n0t
  have g11 := hm.q
  have g12 := hm.q1
  have g13 := hm.q2
  have g14 := hm.q3
  have g15 := hm.k
  have g16 := hm.kt
  have g17 := hm.la
  have g18 := hm.bs
  have g19 := hm.bn
  have g20 := hm.tx
  have g21 := hm.rb
  have g22 := hm.rt
  clear hm
  have SS := cell_same
  have LB' := ltB_add
  have LS := ltB_self
  have LA' := alloc_reads
  have LH := alloc_holds
  go_enter Tryd.func39, Tryd.ntmps39
  go_wp2_with ((go_at_call 44; (with_reducible refine (C1.out _).mono ?_); rintro e w' ⟨rfl, n1, rfl⟩))
  refine bodyPost_ret (v := .tuple #[.agg #[.int .u64 0, .int .u64 0], .bool false]) (by simp (maxDischargeDepth := 4) [results, Tryd.results39, go_sem, *]) rfl ?_
  refine ⟨rfl, ?_⟩
  repeat (first | with_reducible assumption | with_reducible exact Below.refl _ _ | with_reducible refine Below.drew ?_ | with_reducible refine below_drewN ?_ _ | with_reducible refine bw_alloc ?_ _ | (with_reducible refine bw_set ?_ ?_ _; focus (dsimp only; omega)) | (with_reducible apply bw_behind; with_reducible assumption))

set_option maxHeartbeats 1000000 in
theorem rwalk_top (b t e a : Nat) (B T E A X T1 T2 N0 N Q Q1 Q2 Q3 K LA BS BN TX RB RT : Int) (hm : RDM b t e a B T E A X T1 T2 N0 N Q Q1 Q2 Q3 K LA BS BN TX RB RT) (f0 : ¬ LA < K) (f1 : TX < BN) (hE : ¬ E = 0) (hN : IntKind.u64.wrap (N0 + 4096) = N) (w : World) :
    Calls Tryd.prog 39 #[.agg #[.int .u64 B, .int .u64 T, .int .u64 E], .int .u64 A] w
      (Makes (.tuple #[.agg #[.int .u64 0, .int .u64 0], .bool false]) w) := by
  have C1 := hide hm.exp
  have g0 := hm.bB
  have g1 := hm.bT
  have g2 := hm.bE
  have g3 := hm.bA
  have g4 := hm.e0
  have g5 := hm.x0
  have g6 := hm.x64
  have g7 := hm.t1
  have g8 := hm.t2
  have g9 := hm.n0
  have g10 := hm.n0t
  have g11 := hm.q
  have g12 := hm.q1
  have g13 := hm.q2
  have g14 := hm.q3
  have g15 := hm.k
  have g16 := hm.kt
  have g17 := hm.la
  have g18 := hm.bs
  have g19 := hm.bn
  have g20 := hm.tx
  have g21 := hm.rb
  have g22 := hm.rt
  clear hm
  have SS := cell_same
  have LB' := ltB_add
  have LS := ltB_self
  have LA' := alloc_reads
  have LH := alloc_holds
  go_enter Tryd.func39, Tryd.ntmps39
  go_wp2_with ((go_at_call 44; (with_reducible refine (C1.out _).mono ?_); rintro e w' ⟨rfl, n1, rfl⟩))
  refine bodyPost_ret (v := .tuple #[.agg #[.int .u64 0, .int .u64 0], .bool false]) (by simp (maxDischargeDepth := 4) [results, Tryd.results39, go_sem, *]) rfl ?_
  refine ⟨rfl, ?_⟩
  repeat (first | with_reducible assumption | with_reducible exact Below.refl _ _ | with_reducible refine Below.drew ?_ | with_reducible refine below_drewN ?_ _ | with_reducible refine bw_alloc ?_ _ | (with_reducible refine bw_set ?_ ?_ _; focus (dsimp only; omega)) | (with_reducible apply bw_behind; with_reducible assumption))

set_option maxHeartbeats 1000000 in
theorem rwalk_ok (b t e a : Nat) (B T E A X T1 T2 N0 N Q Q1 Q2 Q3 K LA BS BN TX RB RT : Int) (hm : RDM b t e a B T E A X T1 T2 N0 N Q Q1 Q2 Q3 K LA BS BN TX RB RT) (f0 : ¬ LA < K) (f1 : ¬ TX < BN) (hE : ¬ E = 0) (hN : IntKind.u64.wrap (N0 + 4096) = N) (w : World) :
    Calls Tryd.prog 39 #[.agg #[.int .u64 B, .int .u64 T, .int .u64 E], .int .u64 A] w
      (Makes (.tuple #[.agg #[.int .u64 RB, .int .u64 RT], .bool true]) w) := by
  have C1 := hide hm.exp
  have g0 := hm.bB
  have g1 := hm.bT
  have g2 := hm.bE
  have g3 := hm.bA
  have g4 := hm.e0
  have g5 := hm.x0
  have g6 := hm.x64
  have g7 := hm.t1
  have g8 := hm.t2
  have g9 := hm.n0
  have g10 := hm.n0t
  have g11 := hm.q
  have g12 := hm.q1
  have g13 := hm.q2
  have g14 := hm.q3
  have g15 := hm.k
  have g16 := hm.kt
  have g17 := hm.la
  have g18 := hm.bs
  have g19 := hm.bn
  have g20 := hm.tx
  have g21 := hm.rb
  have g22 := hm.rt
  clear hm
  have SS := cell_same
  have LB' := ltB_add
  have LS := ltB_self
  have LA' := alloc_reads
  have LH := alloc_holds
  go_enter Tryd.func39, Tryd.ntmps39
  go_wp2_with ((go_at_call 44; (with_reducible refine (C1.out _).mono ?_); rintro e w' ⟨rfl, n1, rfl⟩))
  refine bodyPost_ret (v := .tuple #[.agg #[.int .u64 RB, .int .u64 RT], .bool true]) (by simp (maxDischargeDepth := 4) [results, Tryd.results39, go_sem, *]) rfl ?_
  refine ⟨rfl, ?_⟩
  repeat (first | with_reducible assumption | with_reducible exact Below.refl _ _ | with_reducible refine Below.drew ?_ | with_reducible refine below_drewN ?_ _ | with_reducible refine bw_alloc ?_ _ | (with_reducible refine bw_set ?_ ?_ _; focus (dsimp only; omega)) | (with_reducible apply bw_behind; with_reducible assumption))

theorem rdecode_yes (b t e a : Nat) (h : decOk b t e a) (w : World) :
    Calls Tryd.prog 39 #[.agg #[.int .u64 (b : Int), .int .u64 (t : Int), .int .u64 (e : Int)], .int .u64 (a : Int)] w
      (Makes (.tuple #[.agg #[.int .u64 ((baseN b e a * 2 ^ (e - 1) : Nat) : Int), .int .u64 (((baseN b e a + lenN b t e) * 2 ^ (e - 1) : Nat) : Int)], .bool true]) w) := by
  obtain ⟨hg, hk, htop⟩ := h
  obtain ⟨B, T, E, A, X, T1, T2, N0, N, Q, Q1, Q2, Q3, K, LA, BS, BN, TX, RB, RT, hm⟩ := rdm_met b t e a hg
  have f0 : ¬ LA < K := fun h => hm.back.1 h hk
  have f1 : ¬ TX < BN := fun h => (hm.top hk).1 h htop
  obtain ⟨e1, e2⟩ := hm.base hk htop
  rw [← e1, ← e2, ← hm.eb, ← hm.et, ← hm.ee, ← hm.ea]
  by_cases h0 : e = 0
  · have hE : E = 0 := by rw [hm.ee]; omega
    have hL := hm.zero h0
    subst hE hL
    exact rwalk_ok0 b t e a B T A X T1 T2 _ Q Q1 Q2 Q3 K LA BS BN TX RB RT hm f0 f1 w
  · exact rwalk_ok b t e a B T E A X T1 T2 N0 N Q Q1 Q2 Q3 K LA BS BN TX RB RT hm f0 f1 (by rw [hm.ee]; omega) (hm.more h0) w
theorem rdecode_no (b t e a : Nat) (h : ¬ decOk b t e a) (w : World) :
    Calls Tryd.prog 39 #[.agg #[.int .u64 (b : Int), .int .u64 (t : Int), .int .u64 (e : Int)], .int .u64 (a : Int)] w
      (Makes (.tuple #[.agg #[.int .u64 0, .int .u64 0], .bool false]) w) := by
  by_cases hg : goodF b t e a
  · obtain ⟨B, T, E, A, X, T1, T2, N0, N, Q, Q1, Q2, Q3, K, LA, BS, BN, TX, RB, RT, hm⟩ := rdm_met b t e a hg
    rw [← hm.eb, ← hm.et, ← hm.ee, ← hm.ea]
    by_cases hk : backN b e a ≤ a / 2 ^ (e - 1) + 4096
    · have f0 : ¬ LA < K := fun h => hm.back.1 h hk
      have f1 : TX < BN := (hm.top hk).2 (fun ht => h ⟨hg, hk, ht⟩)
      by_cases h0 : e = 0
      · have hE : E = 0 := by rw [hm.ee]; omega
        have hL := hm.zero h0
        subst hE hL
        exact rwalk_top0 b t e a B T A X T1 T2 _ Q Q1 Q2 Q3 K LA BS BN TX RB RT hm f0 f1 w
      · exact rwalk_top b t e a B T E A X T1 T2 N0 N Q Q1 Q2 Q3 K LA BS BN TX RB RT hm f0 f1 (by rw [hm.ee]; omega) (hm.more h0) w
    · have f0 : LA < K := hm.back.2 hk
      by_cases h0 : e = 0
      · have hE : E = 0 := by rw [hm.ee]; omega
        have hL := hm.zero h0
        subst hE hL
        exact rwalk_back0 b t e a B T A X T1 T2 _ Q Q1 Q2 Q3 K LA BS BN TX RB RT hm f0 w
      · exact rwalk_back b t e a B T E A X T1 T2 N0 N Q Q1 Q2 Q3 K LA BS BN TX RB RT hm f0 (by rw [hm.ee]; omega) (hm.more h0) w
  · exact rdecode_bad _ _ _ _ (fun h2 => hg ⟨by omega, by omega, by omega, by omega⟩) w
end Go.Proofs.YtnbfjaocakghkaaDoor
