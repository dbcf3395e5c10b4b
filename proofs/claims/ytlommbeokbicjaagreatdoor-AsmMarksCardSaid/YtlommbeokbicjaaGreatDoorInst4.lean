/-
  What inst.Encode answers.
-/
import Derived.Test.YtlommbeokbicjaaGreatDoorInst2
import Derived.Test.YtlommbeokbicjaaGreatDoorInst3
import Derived.Test.YtlommbeokbicjaaGreatDoorMore
namespace Go.Proofs.YtlommbeokbicjaaGreatDoor
open Go.RowKit Words FieldMath InstMath

def four (a b c m : Int) (o : Nat) : Int := match o with | 0 => a | 1 => b | 2 => c | _ => m
def encV : Option (BitVec 64) → Value
  | some y => .tuple #[.int .u32 (y.toNat : Int), .bool true]
  | none => .tuple #[.int .u32 0, .bool false]
def rng (v : Int) : Prop := -9223372036854775808 ≤ v ∧ v < 9223372036854775808
theorem parts_be {v : Value} {L : List Prt} {W W' : World} {n : Nat} (h : Parts v L W n) (hb : Below W.heap.size W W') : Parts v L W' n := by
  rcases h with h | ⟨N, h0, h1, h2⟩
  · exact .inl h
  · exact .inr ⟨N, h0, h1, fun i p hp => by
      obtain ⟨a, b, c, d⟩ := h2 i p hp
      exact ⟨c_be hb a, c_be hb b, c_be hb c, c_be hb d⟩⟩
theorem parts_len {s : Nat} (hs : IsShape s) : (partsL s).length ≤ 6 := each_shape (P := fun s => (partsL s).length ≤ 6) (by decide) hs
theorem shr_walk (x : BitVec 64) (n : Nat) : ((x.toNat : Int) / 2 ^ n) = ((x >>> n).toNat : Int) := shr_bv x n

theorem behind_one0 {w0 : World} {f : FuncId} {args : Array Value} {v : Value} (c : ∀ W : World, Calls Tryz.prog f args W (Quiet v W)) (y : Behind w0.heap.size w0) :
    Calls Tryz.prog f args y.world fun e w'' => e = .returned v ∧ ∃ z : Behind w0.heap.size w0, w'' = z.world :=
  Behind.call (fun W => (c W).mono fun _ _ h => quiet_makes h) y

set_option maxHeartbeats 400000 in
theorem enc_no (k a b c m : Int) (h : ¬ (1 ≤ k ∧ k ≤ 69)) (w : World) : Calls Tryz.prog 6 #[.agg #[.int .i64 k, .int .i64 a, .int .i64 b, .int .i64 c, .int .i64 m]] w (Makes (encV none) w) := by
  have C : Hid (∀ W, Calls Tryz.prog 15 #[.int .i64 k] W (Quiet (.int .u8 0) W)) := hide (fun W => shape_no k h W)
  clear h
  go_enter Tryz.func6, Tryz.ntmps6
  go_wp2_with (go_at_call 15; (with_reducible refine (C.out _).mono ?_); rintro e w' ⟨rfl, n1, rfl⟩)
  refine bodyPost_ret (v := .tuple #[.int .u32 0, .bool false]) (by simp (maxDischargeDepth := 4) [results, Tryz.results6, go_sem, *]) rfl ?_
  refine ⟨rfl, ?_⟩
  repeat (first | with_reducible assumption | with_reducible exact Below.refl _ _ | with_reducible refine Below.drew ?_ | with_reducible refine below_drewN ?_ _ | with_reducible refine bw_alloc ?_ _ | (with_reducible refine bw_set ?_ ?_ _; focus (dsimp only; omega)) | (with_reducible apply bw_behind; with_reducible assumption))

set_option maxHeartbeats 2000000 in
theorem enc_yes (k : Nat) (h1 : 1 ≤ k) (h2 : k ≤ 69) (a b c m : Int) (ra : rng a) (rb : rng b) (rc : rng c) (rm : rng m) (w : World) (hT : TabW w) :
    Calls Tryz.prog 6 #[.agg #[.int .i64 (k : Int), .int .i64 a, .int .i64 b, .int .i64 c, .int .i64 m]] w (Makes (encV (encK k (four a b c m))) w) := by
  have hsh := shape_of h1 h2
  have CS : Hid (∀ W, Calls Tryz.prog 15 #[.int .i64 (k : Int)] W (Quiet (.int .u8 (shp k : Int)) W)) := hide (shape_yes k ⟨h1, h2⟩)
  have CP : Hid (∀ W, Calls Tryz.prog 16 #[.int .u8 (shp k : Int)] W (GivesP (partsL (shp k)) W)) := hide (parts_any (shp k) hsh)
  have CF : Hid (∀ (o : Nat) (v : Int), rng v → ∀ W, Calls Tryz.prog 17 #[.int .u8 (shp k : Int), .int .i64 (o : Int), .int .i64 v] W (Makes (.bool (fitB (shp k) o v)) W)) := hide (fun o v r W => ifits_any (shp k) hsh o v r.1 r.2 W)
  have RR : Hid (∀ o, rng (four a b c m o)) := hide (fun o => by unfold four; split <;> assumption)
  have ok := ok_shape hsh
  have H4 := hide ok.four
  have hin := hide ok.inw
  have htop := hide ok.top
  clear ok ra rb rc rm
  have hlt : ∀ y, encK k (four a b c m) = some y → IntKind.u32.wrap (y.toNat : Int) = (y.toNat : Int) := fun y hy => by
    have := (enc_match h1 h2 hy).1
    rw [IntKind.wrap_u32']
    omega
  have HL := hide hlt
  have hw0 : ((wrd k : Nat) : Int) = ((BitVec.ofNat 64 (wrd k)).toNat : Int) := by
    have := wrd_lt k h2
    rw [BitVec.toNat_ofNat, Nat.mod_eq_of_lt (by omega)]
  have hc0 := hT k (by omega)
  rw [hw0] at hc0
  have hu0 : IntKind.u64.wrap ((BitVec.ofNat 64 (wrd k)).toNat : Int) = ((BitVec.ofNat 64 (wrd k)).toNat : Int) := by
    rw [IntKind.wrap_u64]
    have := (BitVec.ofNat 64 (wrd k)).isLt
    omega
  have hg : ltB 0 w.heap.size = true := by unfold ltB; simpa using hT.pos
  have hk0 : ((shp k : Int) == 0) = false := by
    have : shp k ≠ 0 := each_shape (P := fun s => s ≠ 0) (by decide) hsh
    simp; omega
  have hR : encK k (four a b c m) = encL (shp k) (four a b c m) (partsL (shp k)) (BitVec.ofNat 64 (wrd k)) := rfl
  obtain ⟨R, eR⟩ : ∃ R, encK k (four a b c m) = R := ⟨_, rfl⟩
  rw [eR] at hR HL ⊢
  have HR := hide hR
  clear hlt eR hR hT hw0
  generalize BitVec.ofNat 64 (wrd k) = w00 at *
  have hlen := parts_len hsh
  obtain ⟨L, hL⟩ : ∃ L, partsL (shp k) = L := ⟨_, rfl⟩
  rw [hL] at hlen CP H4 hin htop HR
  generalize shp k = s at *
  clear hL
  obtain ⟨F, hF⟩ : ∃ F, four a b c m = F := ⟨_, rfl⟩
  have f0 : a = F 0 := by rw [← hF]; rfl
  have f1 : b = F 1 := by rw [← hF]; rfl
  have f2 : c = F 2 := by rw [← hF]; rfl
  have f3 : m = F 3 := by rw [← hF]; rfl
  rw [hF] at RR HR
  rw [f0, f1, f2, f3]
  clear hF f0 f1 f2 f3 h1
  generalize q0 : F 0 = x0 at *
  generalize q1 : F 1 = x1 at *
  generalize q2 : F 2 = x2 at *
  generalize q3 : F 3 = x3 at *
  have Q := hide (And.intro q0 (And.intro q1 (And.intro q2 q3)))
  clear q0 q1 q2 q3
  have SS := cell_same
  have LB' := ltB_add
  have LS := ltB_self
  have LA' := alloc_reads
  have LH := alloc_holds
  go_enter Tryz.func6, Tryz.ntmps6
  go_wp2_with (first | (go_at_call 15; (with_reducible refine (CS.out _).mono ?_); rintro e w' ⟨rfl, n1, rfl⟩) | (go_at_call 16; (with_reducible refine (CP.out _).mono ?_); rintro e w1 ⟨v, rfl, hb1, hp1⟩; (rcases hp1 with ⟨rfl, rfl⟩ | ⟨N, _, rfl, hp1⟩)))
  case _ =>
    have hR0 : R = some w00 := HR.out
    clear CF CS CP RR
    have hy := HL.out _ hR0
    subst hR0
    refine wp_loop_rounds 1 ?_
    rw [rounds_succ]
    go_wp2
    refine bodyPost_ret (v := .tuple #[.int .u32 (w00.toNat : Int), .bool true]) (by simp (maxDischargeDepth := 4) [results, Tryz.results6, go_sem, *]) rfl ?_
    refine ⟨rfl, ?_⟩
    repeat (first | with_reducible assumption | with_reducible exact Below.refl _ _ | with_reducible refine Below.drew ?_ | with_reducible refine below_drewN ?_ _ | with_reducible refine bw_alloc ?_ _ | (with_reducible refine bw_set ?_ ?_ _; focus (dsimp only; omega)) | (with_reducible apply bw_behind; with_reducible assumption))
  case _ =>
    obtain ⟨q0, q1, q2, q3⟩ := Q.out
    have hA : ∀ o, o < 4 → w1.cell? ⟨w.heap.size + 1, o, none⟩ = some (.int .i64 (F o)) := by
      intro o ho
      match o, ho with
      | 0, _ => rw [q0]; exact c_be hb1 (by simp [go_sem])
      | 1, _ => rw [q1]; exact c_be hb1 (by simp [go_sem])
      | 2, _ => rw [q2]; exact c_be hb1 (by simp [go_sem])
      | 3, _ => rw [q3]; exact c_be hb1 (by simp [go_sem])
    have HA := hide hA
    have HP := hide hp1
    have hw1 : Below w.heap.size w w1 := by
      repeat (first | with_reducible assumption | with_reducible exact Below.refl _ _ | with_reducible refine Below.drew ?_ | with_reducible refine below_drewN ?_ _ | with_reducible refine bw_alloc ?_ _ | (with_reducible refine bw_set ?_ ?_ _; focus (dsimp only; omega)) | (with_reducible apply bw_behind; with_reducible assumption))
    clear hA hp1 hb1 q0 q1 q2 q3 Q CS CP
    go_loopw [6, 32] (fun x i wr => ∃ (j : Nat) (acc : BitVec 64), j ≤ L.length ∧ i = .int .i64 (j : Int) ∧ x = .int .u64 (acc.toNat : Int) ∧ encL s F (L.drop j) acc = R ∧ Below w1.heap.size w1 wr) (fun _ i _ => L.length - (intOf i).toNat)
    case atStart => exact ⟨0, w00, by omega, rfl, rfl, HR.out.symm, Below.refl _ _⟩
    case round =>
      obtain ⟨j, acc, hj, rfl, rfl, hE, hB⟩ := hrel
      by_cases hlt : j < L.length
      · obtain ⟨p0, p1, p2, p3⟩ := HP.out j L[j] (by simp [hlt])
        have hmem : L[j] ∈ L := List.getElem_mem hlt
        have ho := H4.out _ hmem
        have hok := ok_part (hin.out _ hmem)
        have ht := htop.out _ hmem
        have a0 := HA.out _ ho
        rw [List.drop_eq_getElem_cons hlt, encL] at hE
        generalize L[j] = p at *
        obtain ⟨o, l, n, at'⟩ := p
        simp only at p0 p1 p2 p3 ho hok hE a0 ht
        have hl64 : l ≤ 64 := by omega
        have hl64' : (l : Int) ≤ 64 := by omega
        have rr := RR.out o
        have c0 := c_be hB p0
        have c1 := c_be hB p1
        have c2 := c_be hB p2
        have c3 := c_be hB p3
        have a1 := c_be hB a0
        have C2 : Hid (∀ W, Calls Tryz.prog 17 #[.int .u8 (s : Int), .int .i64 (o : Int), .int .i64 (F o)] W (Makes (.bool (fitB s o (F o))) W)) := hide (CF.out o (F o) rr)
        have hu := wrap_u64_bv (F o)
        have hs := shr_bv (BitVec.ofInt 64 (F o)) l
        have C3 : Hid (∀ W, Calls Tryz.prog 18 #[.int .u64 (acc.toNat : Int), .int .i64 (at' : Int), .int .i64 (n : Int), .int .u64 ((BitVec.ofInt 64 (F o) >>> l).toNat : Int)] W (Quiet (.int .u64 ((putB acc at' n (BitVec.ofInt 64 (F o) >>> l)).toNat : Int)) W)) := hide (put_any _ _ _ _)
        have HE := hide hE
        clear p0 p1 p2 p3 a0 rr CF hE hmem
        generalize putB acc at' n (BitVec.ofInt 64 (F o) >>> l) = acc2 at *
        generalize BitVec.ofInt 64 (F o) >>> l = X2 at *
        generalize BitVec.ofInt 64 (F o) = X1 at *
        generalize F o = V at *
        have hwz := hw1.size
        have hna : ltB (w.heap.size + 1) wr.heap.size = true := by unfold ltB; simpa using World.block_lt_of_cell? _ _ a1
        have HOK := hide hok
        clear hok
        obtain ⟨B, eB⟩ : ∃ B, fitB s o V = B := ⟨_, rfl⟩
        rw [eB] at C2 HE
        clear eB
        cases B with
        | false =>
          have hR : R = none := HE.out.symm
          subst hR
          clear HE
          go_wp2_with (first | (go_at_call 17; (with_reducible first | refine (C2.out _).mono ?_); rintro e w2 ⟨rfl, hb2⟩; have hr2 := below_reads hb2; have hh2 := below_holds hb2; obtain ⟨m2, hs2⟩ := below_grew hb2))
          refine bodyPost_ret (v := .tuple #[.int .u32 0, .bool false]) (by simp (maxDischargeDepth := 4) [results, Tryz.results6, go_sem, *]) rfl ?_
          refine ⟨rfl, ?_⟩
          repeat (first | with_reducible assumption | with_reducible exact Below.refl _ _ | with_reducible refine Below.drew ?_ | with_reducible refine below_drewN ?_ _ | with_reducible refine bw_alloc ?_ _ | (with_reducible refine bw_set ?_ ?_ _; focus (dsimp only; omega)) | (with_reducible apply bw_behind; with_reducible assumption))
        | true =>
          simp only [if_true] at HE
          go_wp2_with (first | (go_at_call 17; (with_reducible first | refine (C2.out _).mono ?_); rintro e w2 ⟨rfl, hb2⟩; have hr2 := below_reads hb2; have hh2 := below_holds hb2; obtain ⟨m2, hs2⟩ := below_grew hb2))

          refine wp_abs (fun W => Below w1.heap.size w1 W ∧ W.cell? ⟨wr.heap.size, 1, none⟩ = some (.int .i64 (l : Int)) ∧ W.cell? ⟨wr.heap.size, 2, none⟩ = some (.int .i64 (n : Int)) ∧ W.cell? ⟨wr.heap.size, 3, none⟩ = some (.int .i64 (at' : Int))) ?_ ?_
          · refine ⟨?_, ?_, ?_, ?_⟩
            all_goals (first | with_reducible assumption | ((repeat (first | with_reducible assumption | with_reducible refine c_dr _ ?_ | with_reducible refine c_d1 ?_ | with_reducible refine c_al _ ?_ | (with_reducible refine c_set ?_ ?_; focus (dsimp only; omega)) | (with_reducible apply c_be; with_reducible assumption))); done) | ((repeat (first | with_reducible assumption | with_reducible refine o_dr _ ?_ | with_reducible refine o_d1 ?_ | with_reducible refine o_set ?_ | (with_reducible refine o_new ?_ ?_; (focus (simp)); (focus (simp))) | with_reducible refine o_al _ ?_ | (with_reducible apply o_be; with_reducible assumption))); done) | ((repeat (first | with_reducible assumption | with_reducible exact Below.refl _ _ | with_reducible refine Below.drew ?_ | with_reducible refine below_drewN ?_ _ | with_reducible refine bw_alloc ?_ _ | (with_reducible refine bw_set ?_ ?_ _; focus (dsimp only; omega)) | (with_reducible apply bw_behind; with_reducible assumption))); done) | (simp [go_sem, *]; omega) | (simp (maxDischargeDepth := 4) [go_sem, *]; done))
          rintro w0 ⟨hB0, c0, c1, c2⟩
          have y0 := behind_cell0 c0
          have y1 := behind_cell0 c1
          have y2 := behind_cell0 c2
          have hsome := Behind.any w0
          clear c0 c1 c2
          refine wp_region_behind w0 (by kernel_rfl) (by kernel_rfl) (Below.refl _ _) ?_
          repeat (go_big_quiet_step (first | (go_at_call 18; with_reducible exact behind_one0 C3.out _)))
          refine wpQuiet_nil ?_
          rintro _ ⟨y, rfl⟩
          have hBy := bw_behind y.below hB0
          have x0 := y0 y
          have x1 := y1 y
          have x2 := y2 y
          clear hsome y0 y1 y2
          obtain ⟨w1, hw1⟩ : ∃ W, W = y.world := ⟨_, rfl⟩
          rw [← hw1] at hBy x0 x1 x2 ⊢
          clear hw1 y hB0
          go_wp2
          go_roundw
          case rel => exact ⟨j + 1, acc2, by omega, by go_num, rfl, HE.out, by assumption⟩
          case measure => simp [intOf]; omega
      · have : j = L.length := by omega
        subst this
        have hR : R = some acc := by
          rw [List.drop_length] at hE
          exact hE.symm
        have hy := HL.out _ hR
        subst hR
        clear hE
        go_wp2
        refine bodyPost_ret (v := .tuple #[.int .u32 (acc.toNat : Int), .bool true]) (by simp (maxDischargeDepth := 4) [results, Tryz.results6, go_sem, *]) rfl ?_
        refine ⟨rfl, ?_⟩
        repeat (first | with_reducible assumption | with_reducible exact Below.refl _ _ | with_reducible refine Below.drew ?_ | with_reducible refine below_drewN ?_ _ | with_reducible refine bw_alloc ?_ _ | (with_reducible refine bw_set ?_ ?_ _; focus (dsimp only; omega)) | (with_reducible apply bw_behind; with_reducible assumption))
end Go.Proofs.YtlommbeokbicjaaGreatDoor
