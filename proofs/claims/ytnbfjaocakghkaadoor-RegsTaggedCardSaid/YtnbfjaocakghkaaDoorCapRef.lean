/-
  What the document's own answers of layer 5 (package mintmarkref05) are: fields, Look.
-/
import Derived.Test.YtnbfjaocakghkaaDoorCapMath
import Derived.Test.YtnbfjaocakghkaaDoorKeep
import Derived.Test.YtnbfjaocakghkaaDoorRefDec03
import Derived.Deep.DeepCutAuto
import Derived.Deep.RegionHeld3
namespace Go.Proofs.YtnbfjaocakghkaaDoor
open Go.RowKit Words FieldMath BoundsMath

theorem rdec_any (b t e a : Nat) (w : World) :
    Calls Tryd.prog 39 #[.agg #[.int .u64 (b : Int), .int .u64 (t : Int), .int .u64 (e : Int)], .int .u64 (a : Int)] w
      (Makes (.tuple #[.agg #[.int .u64 ((dB b t e a : Nat) : Int), .int .u64 ((dT b t e a : Nat) : Int)], .bool (dO b t e a)]) w) := by
  unfold dB dT dO
  by_cases h : decB b t e a = true
  · rw [if_pos h, if_pos h, h]
    exact rdecode_yes b t e a ((decB_iff ..).1 h) w
  · rw [if_neg h, if_neg h, show decB b t e a = false by simpa using h]
    exact rdecode_no b t e a (fun h2 => h ((decB_iff ..).2 h2)) w

/-- The numbers that the document's answers reckon of a Meta. -/
structure MetMeta (M S14 S26 S32 S48 FB FT FE P K : Int) : Prop where
  b : M.tmod 16384 = FB
  b' : M % 16384 = FB
  s14 : M / 16384 = S14
  t : S14.tmod 4096 = FT
  t' : S14 % 4096 = FT
  s26 : M / 67108864 = S26
  e : S26.tmod 64 = FE
  e' : S26 % 64 = FE
  s32 : M / 4294967296 = S32
  p : S32.tmod 512 = P
  p' : S32 % 512 = P
  s48 : M / 281474976710656 = S48
  k : S48.tmod 4096 = K
  k' : S48 % 4096 = K
theorem met_meta (m : Nat) : ∃ S14 S26 S32 S48, MetMeta (m : Int) S14 S26 S32 S48 ((mB m : Nat) : Int) ((mT m : Nat) : Int) ((mE m : Nat) : Int) ((mP m : Nat) : Int) ((mK m : Nat) : Int) := by
  have ht : ∀ (n k : Nat), (n : Int).tmod (k : Int) = ((n % k : Nat) : Int) := fun n k => by rw [Int.tmod_eq_emod_of_nonneg (by omega)]; omega
  refine ⟨((m / 16384 : Nat) : Int), ((m / 67108864 : Nat) : Int), ((m / 4294967296 : Nat) : Int), ((m / 281474976710656 : Nat) : Int), ⟨ht m 16384, by unfold mB; omega, by omega, ht _ 4096, by unfold mT; omega, by omega, ht _ 64, by unfold mE; omega, by omega, ht _ 512, by unfold mP; omega, by omega, ht _ 4096, by unfold mK; omega⟩⟩

set_option maxHeartbeats 400000 in
theorem rfields_any (m : Nat) (w : World) :
    Calls Tryd.prog 40 #[.int .u64 (m : Int)] w (Makes (.agg #[.int .u64 ((mB m : Nat) : Int), .int .u64 ((mT m : Nat) : Int), .int .u64 ((mE m : Nat) : Int)]) w) := by
  obtain ⟨S14, S26, S32, S48, hm⟩ := met_meta m
  generalize ((mB m : Nat) : Int) = FB at *
  generalize ((mT m : Nat) : Int) = FT at *
  generalize ((mE m : Nat) : Int) = FE at *
  generalize ((mP m : Nat) : Int) = P at *
  generalize ((mK m : Nat) : Int) = K at *
  generalize (m : Int) = M at *
  obtain ⟨g1, g2, g3, g4, g5, g6, g7, g8, g9, g10, g11, g12, g13, g14⟩ := hm
  have SS := cell_same
  have LB' := ltB_add
  have LS := ltB_self
  have LA' := alloc_reads
  have LH := alloc_holds
  go_enter Tryd.func40, Tryd.ntmps40
  go_wp2
  refine bodyPost_ret (v := .agg #[.int .u64 FB, .int .u64 FT, .int .u64 FE]) (by simp (maxDischargeDepth := 4) [results, Tryd.results40, go_sem, *]) rfl ?_
  refine ⟨rfl, ?_⟩
  repeat (first | with_reducible assumption | with_reducible exact Below.refl _ _ | with_reducible refine Below.drew ?_ | with_reducible refine below_drewN ?_ _ | with_reducible refine bw_alloc ?_ _ | (with_reducible refine bw_set ?_ ?_ _; focus (dsimp only; omega)) | (with_reducible apply bw_behind; with_reducible assumption))

set_option maxHeartbeats 4000000 in
theorem rlook_any (q : Bool) (m a : Nat) (w : World) :
    Calls Tryd.prog 37 #[.agg #[.bool q, .int .u64 (m : Int), .int .u64 (a : Int)]] w
      (Makes (.tuple #[.agg #[.int .u64 ((lB m a : Nat) : Int), .int .u64 ((lT m a : Nat) : Int), .int .u64 ((mP m : Nat) : Int), .int .u64 ((mK m : Nat) : Int)], .bool (lO m a)]) w) := by
  have C1 := hide (fun W => rfields_any m W)
  have C2 : Hid (∀ W, Calls Tryd.prog 39 #[.agg #[.int .u64 ((mB m : Nat) : Int), .int .u64 ((mT m : Nat) : Int), .int .u64 ((mE m : Nat) : Int)], .int .u64 (a : Int)] W
      (Makes (.tuple #[.agg #[.int .u64 ((lB m a : Nat) : Int), .int .u64 ((lT m a : Nat) : Int)], .bool (lO m a)]) W)) := hide (fun W => rdec_any _ _ _ a W)
  obtain ⟨S14, S26, S32, S48, hm⟩ := met_meta m
  generalize lO m a = O at *
  generalize ((lB m a : Nat) : Int) = D at *
  generalize ((lT m a : Nat) : Int) = U at *
  generalize ((mB m : Nat) : Int) = FB at *
  generalize ((mT m : Nat) : Int) = FT at *
  generalize ((mE m : Nat) : Int) = FE at *
  generalize ((mP m : Nat) : Int) = P at *
  generalize ((mK m : Nat) : Int) = K at *
  generalize (m : Int) = M at *
  generalize (a : Int) = A at *
  obtain ⟨g1, g2, g3, g4, g5, g6, g7, g8, g9, g10, g11, g12, g13, g14⟩ := hm
  have SS := cell_same
  have LB' := ltB_add
  have LS := ltB_self
  have LA' := alloc_reads
  have LH := alloc_holds
  go_enter Tryd.func37, Tryd.ntmps37
  go_upto_region 1 with fail
  go_cut [4, 5] (fun s4 s5 wx => ∃ n : Nat, s4 = .pointer (some ⟨n, 0, none⟩) ∧ s5 = .bool O ∧ (w.heap.size + 2 ≤ n ∧ n < wx.heap.size) ∧ wx.cell? ⟨n, 0, none⟩ = some (.int .u64 D) ∧ wx.cell? ⟨n, 1, none⟩ = some (.int .u64 U) ∧
    wx.cell? ⟨w.heap.size, 1, none⟩ = some (.int .u64 M) ∧ Own wx (w.heap.size + 1) 4 ∧ Below w.heap.size w wx)
  case first =>
    go_region_held3 (fun w' => w'.cell? ⟨w.heap.size, 0, none⟩ = some (.bool q) ∧ w'.cell? ⟨w.heap.size, 1, none⟩ = some (.int .u64 M) ∧ w'.cell? ⟨w.heap.size, 2, none⟩ = some (.int .u64 A) ∧ Below w.heap.size w w')
      (first | with_reducible assumption | (refine ⟨?_, ?_, ?_, ?_⟩ <;> first | ((repeat (first | with_reducible assumption | with_reducible refine c_dr _ ?_ | with_reducible refine c_d1 ?_ | with_reducible refine c_al _ ?_ | (with_reducible refine c_set ?_ ?_; focus (dsimp only; omega)) | (with_reducible apply c_be; with_reducible assumption))); done) | ((repeat (first | with_reducible assumption | with_reducible exact Below.refl _ _ | with_reducible refine Below.drew ?_ | with_reducible refine below_drewN ?_ _ | with_reducible refine bw_alloc ?_ _ | (with_reducible refine bw_set ?_ ?_ _; focus (dsimp only; omega)) | (with_reducible apply bw_behind; with_reducible assumption))); done) | (simp [go_sem, *]; done)))
      (first | (go_at_call 40; (with_reducible refine (C1.out _).mono ?_); rintro e w1 ⟨rfl, hb1⟩; have hr1 := below_reads hb1; have hh1 := below_holds hb1; obtain ⟨m1, hs1⟩ := below_grew hb1) | (go_at_call 39; (with_reducible refine (C2.out _).mono ?_); rintro e w2 ⟨rfl, hb2⟩; have hr2 := below_reads hb2; have hh2 := below_holds hb2; obtain ⟨m2, hs2⟩ := below_grew hb2))
    all_goals
      go_wp2_with fail
      go_meet
      refine ⟨_, rfl, rfl, ?_, ?_, ?_, ?_, ?_, ?_⟩
    all_goals (first | with_reducible assumption | ((repeat (first | with_reducible assumption | with_reducible refine c_dr _ ?_ | with_reducible refine c_d1 ?_ | with_reducible refine c_al _ ?_ | (with_reducible refine c_set ?_ ?_; focus (dsimp only; omega)) | (with_reducible apply c_be; with_reducible assumption))); done) | ((repeat (first | with_reducible assumption | with_reducible refine o_dr _ ?_ | with_reducible refine o_d1 ?_ | with_reducible refine o_set ?_ | (with_reducible refine o_new ?_ ?_; (focus (simp)); (focus (simp))) | with_reducible refine o_al _ ?_ | (with_reducible apply o_be; with_reducible assumption))); done) | ((repeat (first | with_reducible assumption | with_reducible exact Below.refl _ _ | with_reducible refine Below.drew ?_ | with_reducible refine below_drewN ?_ _ | with_reducible refine bw_alloc ?_ _ | (with_reducible refine bw_set ?_ ?_ _; focus (dsimp only; omega)) | (with_reducible apply bw_behind; with_reducible assumption))); done) | (refine hT.behind ?_; (repeat (first | with_reducible assumption | with_reducible exact Below.refl _ _ | with_reducible refine Below.drew ?_ | with_reducible refine below_drewN ?_ _ | with_reducible refine bw_alloc ?_ _ | (with_reducible refine bw_set ?_ ?_ _; focus (dsimp only; omega)) | (with_reducible apply bw_behind; with_reducible assumption))); done) | (simp [go_sem, *]; omega) | (simp (maxDischargeDepth := 4) [go_sem, *]; done))
  case rest =>
    obtain ⟨n, rfl, rfl, hn, c0, c1, c2, hO, hB⟩ := hcut
    obtain ⟨j, rfl⟩ : ∃ j, n = w.heap.size + 1 + 1 + j := ⟨n - (w.heap.size + 2), by omega⟩
    obtain ⟨k, hk⟩ : ∃ k, wc.heap.size = w.heap.size + 1 + 1 + j + 1 + k := ⟨wc.heap.size - (w.heap.size + 1 + 1 + j + 1), by omega⟩
    clear hn
    obtain ⟨v0, e0⟩ := hO.val 0 (by omega)
    obtain ⟨v1, e1⟩ := hO.val 1 (by omega)
    obtain ⟨v2, e2⟩ := hO.val 2 (by omega)
    obtain ⟨v3, e3⟩ := hO.val 3 (by omega)
    have f0 := hO.free 0 (by omega)
    have f1 := hO.free 1 (by omega)
    have f2 := hO.free 2 (by omega)
    have f3 := hO.free 3 (by omega)
    go_wp2
    refine bodyPost_ret (v := .tuple #[.agg #[.int .u64 D, .int .u64 U, .int .u64 P, .int .u64 K], .bool O]) (by simp (maxDischargeDepth := 4) [results, Tryd.results37, go_sem, *]) rfl ?_
    refine ⟨rfl, ?_⟩
    repeat (first | with_reducible assumption | with_reducible exact Below.refl _ _ | with_reducible refine Below.drew ?_ | with_reducible refine below_drewN ?_ _ | with_reducible refine bw_alloc ?_ _ | (with_reducible refine bw_set ?_ ?_ _; focus (dsimp only; omega)) | (with_reducible apply bw_behind; with_reducible assumption))
end Go.Proofs.YtnbfjaocakghkaaDoor
