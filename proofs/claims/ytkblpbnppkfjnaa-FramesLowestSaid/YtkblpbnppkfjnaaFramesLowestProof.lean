/-
  The statement FramesLowest: the lowest free number is taken; what was given back is taken again, the lowest first.
-/
import Derived.Test.YtkblpbnppkfjnaaFrm5
import Derived.Test.YtkblpbnppkfjnaaFrmMap
import Derived.Test.YtkblpbnppkfjnaaFrmArg
import Derived.Deep.RegionHeld
namespace Go.Proofs.Ytkblpbnppkfjnaa.FramesLowest
open Go.RowKit Go.Maps Words ScaleMath FrmMath

theorem all_zero : allW ((0 : Nat) : Int) = 0#64 := by decide
/-- The number that a list's element tells, among N. -/
theorem pick (N : Nat) (h1 : 1 ≤ N) (h2 : N ≤ 64) (x : Int) (_hx : Bd x) : ∃ (R R2 : Int) (k : Nat), x.tmod (N : Int) = R ∧ IntKind.i64.wrap (R + (N : Int)) = R2 ∧ R2.tmod (N : Int) = (k : Int) ∧ k < N ∧ IntKind.i64.wrap R = R ∧ IntKind.i64.wrap (k : Int) = (k : Int) := by
  have hb1 : x.tmod (N : Int) < (N : Int) := Int.tmod_lt_of_pos x (by omega)
  have hb2 : - (N : Int) < x.tmod (N : Int) := by
    have := Int.lt_tmod_of_pos x (show (0 : Int) < N by omega)
    exact this
  have hb3 : 0 ≤ (x.tmod (N : Int) + (N : Int)).tmod (N : Int) := Int.tmod_nonneg _ (by omega)
  have hb4 : (x.tmod (N : Int) + (N : Int)).tmod (N : Int) < (N : Int) := Int.tmod_lt_of_pos _ (by omega)
  refine ⟨_, x.tmod (N : Int) + (N : Int), ((x.tmod (N : Int) + (N : Int)).tmod (N : Int)).toNat, rfl, ?_, ?_, ?_, ?_, ?_⟩
  · rw [IntKind.wrap_i64]; omega
  · omega
  · omega
  · rw [IntKind.wrap_i64]; omega
  · rw [IntKind.wrap_i64]; omega

/-- A number is given back: it is in the set then; the pool tells whether it was. -/
theorem give_back (b : Nat) (A G : BitVec 64) (hA : A ≠ 0#64) (k : Nat) (hk : k < 64) (ha : A.getLsbD k = true) (w : World) (hp : PoolAt w b A (freeW A G)) :
    Calls Try.prog 10 #[.pointer (some ⟨b, 0, none⟩), .int .i64 (k : Int)] w fun e w' => e = .returned (.int .i64 (if G.getLsbD k = true then 13 else 0)) ∧ PoolAt w' b A (freeW A (setW G (k : Int))) ∧ OutB b w w' := by
  obtain ⟨h1, h2⟩ := given_taken A G k hk ha
  cases hg : G.getLsbD k with
  | true =>
    rw [hg] at h2
    rw [given_again G k hg]
    exact (give_free b A _ hA k h1 h2 w hp).mono fun e w' ⟨he, hb⟩ => ⟨he, pool_be hb hp, OutB.of_below hb⟩
  | false =>
    rw [hg] at h2
    have := give_yes b A _ hA k h1 h2 w hp
    rw [given_clr] at this
    exact this
theorem ints_eq (E : Int) (W : World) : (binOp .eql 24 (.int .i64 E) (.int .i64 0)).run Try.prog W = .ok (.bool (decide (E = 0))) W := by
  by_cases h : E = 0 <;> simp [go_sem, h]

set_option maxRecDepth 100000 in
set_option maxHeartbeats 4000000 in
theorem walk_n (z : Int) (M N : Nat) (hM : bits .and .i64 z 63 = (M : Int)) (hN : N = M + 1) (hN2 : N ≤ 64) (l : List Int) (sa : Option Addr) (cap : Nat) (w : World)
    (hbd : ∀ y ∈ l, Bd y) (hl : ∀ k x, l[k]? = some x → ∃ b off, sa = some ⟨b, off, none⟩ ∧ w.cell? ⟨b, off + k, none⟩ = some (.int .i64 x)) :
    Calls Try.prog 5 #[.int .i64 z, .slice sa l.length cap] w fun e W' => e = .returned (.bool true) ∧ Below w.heap.size w W' := by
  have hN1 : 1 ≤ N := by omega
  have hw1 : IntKind.i64.wrap (1 + (M : Int)) = (N : Int) := by rw [IntKind.wrap_i64]; omega
  have CN := hide (fun W => new_at (N : Int) (by omega) (by omega) W)
  have hA := all_ne (N : Int) (by omega) (by omega)
  have SB := hide (fun i (hi : i < 64) => all_bitN N hN2 i)
  have ST := hide (fun k hk => all_step N k hN2 hk)
  have HL := hide hl
  have HBD := hide hbd
  have HA := hide hA
  have HPK := hide (pick N hN1 hN2)
  have hmm := @run_makeMap Try.prog
  clear hl hbd hA hN
  generalize hAA : allW (N : Int) = A at *
  have HAA := hide hAA
  clear hAA
  go_enter Try.func5, Try.ntmps5
  go_wp2_with (go_at_call 6; refine (CN.out _).mono ?_; rintro e w1 ⟨b, rfl, hbl, hp0, hB0⟩)
  go_loopw [7] (fun i wr => ∃ k : Nat, k ≤ N ∧ i = .int .i64 k ∧ PoolAt wr b A (allW (k : Int)) ∧ Below w.heap.size w wr) (fun i _ => N - (intOf i).toNat)
  case atStart => exact ⟨0, by omega, rfl, by rw [all_zero]; exact hp0, hB0⟩
  case round =>
    obtain ⟨k, hk, rfl, hp, hbel⟩ := hrel
    by_cases h2 : k < N
    · obtain ⟨⟨l', hl'⟩, hs, hne⟩ := ST.out k h2
      have CT := take_room b A (allW (k : Int)) HA.out hne k l' hl' wr hp
      rw [hs] at CT
      have CT := hide CT
      have hk0 : (0 : Int) ≤ (k : Int) := by omega
      have hkN : (k : Int) < (N : Int) := by omega
      clear hp hl' hne hs
      go_wp2_with (go_at_call 8; refine CT.out.mono ?_; rintro e w2 ⟨rfl, hp2, ho2⟩)
      go_roundw
      case rel => exact ⟨k + 1, by omega, by go_num, hp2, ho2.below hbel hbl hbel.size⟩
      case measure => simp [intOf]; omega
    · obtain rfl : k = N := by omega
      rw [HAA.out] at hp
      have CT := hide (take_full b A HA.out wr hp)
      have HP := hide hp
      have hbl2 := hp.lt
      clear hp
      go_wp2_with (go_at_call 8; refine CT.out.mono ?_; rintro e w2 ⟨rfl, hb2⟩)
      have hp2 := pool_be hb2 HP.out
      have hB2 : Below w.heap.size w w2 := hbel.trans (hb2.mono hbel.size)
      have hmb : w.heap.size ≤ w2.heap.size := hB2.size
      have hbm : b < w2.heap.size := hp2.lt
      go_loopw [13] (fun i wr => ∃ (j : Nat) (G : BitVec 64), j ≤ 100 ∧ j ≤ l.length ∧ i = .int .i64 j ∧ PoolAt wr b A (freeW A G) ∧ MapG wr w2.heap.size j G ∧ G &&& A = G ∧ Below w.heap.size w wr) (fun i _ => 100 - (intOf i).toNat)
      case atStart => exact ⟨0, 0#64, by omega, by omega, rfl, by rw [free_zero]; exact pool_al _ hp2, mg_made w2, by simp, bw_alloc hB2 _⟩
      case round =>
        obtain ⟨j, G, hj1, hj2, rfl, hp, hm, hsub, hbel3⟩ := hrel
        have hj0 : (0 : Int) ≤ (j : Int) := by omega
        by_cases h3 : j < l.length ∧ j < 100
        · obtain ⟨h4, h5⟩ := h3
          obtain ⟨x, hx⟩ : ∃ x, l[j]? = some x := ⟨l[j], by simp [h4]⟩
          obtain ⟨b0, off, rfl, hc⟩ := HL.out j x hx
          have hc2 := (hbel3.cell (p := ⟨b0, off + j, none⟩) (World.block_lt_of_cell? _ _ hc)).trans hc
          obtain ⟨R, R2, kk, r1, r2, r3, r4, r5, r6⟩ := HPK.out x (HBD.out x (List.mem_of_getElem? hx))
          have h4' : (j : Int) < (l.length : Int) := by omega
          have h5' : (j : Int) < 100 := by omega
          have hk0 : ¬ (k : Int) = 0 := by omega
          have HX := hide hx
          clear hx hc
          have hkk : kk < 64 := by omega
          have hak : A.getLsbD kk = true := by rw [SB.out kk hkk]; simpa using r4
          have CG := give_back b A G HA.out kk hkk hak wr.drew hp
          obtain ⟨g, hg⟩ : ∃ g, G.getLsbD kk = g := ⟨_, rfl⟩
          rw [hg] at CG
          obtain ⟨E, hE⟩ : ∃ E : Int, (if g = true then (13 : Int) else 0) = E := ⟨_, rfl⟩
          rw [hE] at CG
          have CG := hide CG
          have hq2 : ¬ (E == 0) = g := by
            rw [← hE]
            cases g <;> decide
          have HGG := hide hg
          clear hg
          have hsz3 : w2.heap.size ≤ wr.heap.size := Nat.le_of_lt hm.lt
          clear hE
          go_upto_region 19 with fail
          refine wp_region_held_drew (S := fun W => MapG W w2.heap.size j G) (by kernel_rfl) (mg_d1 hm) (fun hH => ?_)
          refine wpAnyH_take (i := 0) (oi := { dst := some 82, op := .move (.tmp 5), type := 23, pos := "law.go:78", after := #[], guard := none }) (v := .pointer (some ⟨b, 0, none⟩)) rfl (by kernel_rfl) (by kernel_rfl) (by kernel_rfl) (fun _ _ _ h => h) (.inl ⟨by rfl, fun _ _ => rfl⟩) hH ?_
          simp only [Act.put, List.setIfInBounds_toArray, List.set_cons_zero, List.set_cons_succ]
          refine wpAnyH_take (i := 1) (oi := { dst := some 83, op := .move (.tmp 14), type := 3, pos := "law.go:78", after := #[], guard := none }) (v := .int .i64 (kk : Int)) rfl (by kernel_rfl) (by kernel_rfl) (by kernel_rfl) (fun _ _ _ h => h) (.inl ⟨by rfl, fun _ _ => rfl⟩) hH ?_
          simp only [Act.put, List.setIfInBounds_toArray, List.set_cons_zero, List.set_cons_succ]
          refine wpAnyH_take (i := 4) (oi := { dst := some 86, op := .move (.tmp 12), type := 44, pos := "law.go:78", after := #[], guard := none }) (v := .map (some w2.heap.size)) rfl (by kernel_rfl) (by kernel_rfl) (by kernel_rfl) (fun _ _ _ h => h) (.inl ⟨by rfl, fun _ _ => rfl⟩) hH ?_
          simp only [Act.put, List.setIfInBounds_toArray, List.set_cons_zero, List.set_cons_succ]
          refine wpAnyH_take (i := 5) (oi := { dst := some 87, op := .move (.tmp 14), type := 3, pos := "law.go:78", after := #[], guard := none }) (v := .int .i64 (kk : Int)) rfl (by kernel_rfl) (by kernel_rfl) (by kernel_rfl) (fun _ _ _ h => h) (.inl ⟨by rfl, fun _ _ => rfl⟩) hH ?_
          simp only [Act.put, List.setIfInBounds_toArray, List.set_cons_zero, List.set_cons_succ]
          refine wpAnyH_take (i := 6) (oi := { dst := some 88, op := .lookup 44 (.tmp 86) (.tmp 87) false, type := 4, pos := "law.go:78", after := #[{ on := 4, ground := .data }, { on := 5, ground := .data }], guard := none }) (v := .bool g) rfl (by kernel_rfl) (by kernel_rfl) (by kernel_rfl) (fun _ _ _ h => h) (by rw [← HGG.out]; exact yields_look kk hkk rfl _ _ rfl rfl rfl) hH ?_
          simp only [Act.put, List.setIfInBounds_toArray, List.set_cons_zero, List.set_cons_succ]
          refine wpAnyH_ready (rs := [2]) (by kernel_rfl) (by simp) ?_
          refine AllReadyH.cons (o := { dst := some 84, op := .call { callee := .value (.func 10), args := #[.tmp 82, .tmp 83], argTypes := #[23, 3] }, type := 24, pos := "law.go:78", after := #[{ on := 0, ground := .data }, { on := 1, ground := .data }], guard := none }) rfl (fun K hK => ?_) AllReadyH.nil
          go_simp
          refine CG.out.mono ?_
          rintro e w3 ⟨rfl, hp3, ho3⟩
          refine hK.out _ _ (mg_out ho3 (by omega) (mg_d1 hm)) (fun hH3 => ?_)
          clear hK K
          refine wpAnyH_take (i := 3) (oi := { dst := some 85, op := .binOp .eql 24 (.tmp 84) (.const (.int .i64 0)) 24, type := 4, pos := "law.go:78", after := #[{ on := 2, ground := .data }], guard := none }) (v := .bool (E == 0)) rfl (by kernel_rfl) (by kernel_rfl) (by kernel_rfl) (fun _ _ _ h => h) (.inl ⟨by rfl, fun W _ => by go_simp⟩) hH3 ?_
          simp only [Act.put, List.setIfInBounds_toArray, List.set_cons_zero, List.set_cons_succ]
          refine wpAnyH_take (i := 7) (oi := { dst := some 89, op := .binOp .eql 4 (.tmp 85) (.tmp 88) 4, type := 4, pos := "law.go:78", after := #[{ on := 3, ground := .data }, { on := 6, ground := .data }], guard := none }) (v := .bool false) rfl (by kernel_rfl) (by kernel_rfl) (by kernel_rfl) (fun _ _ _ h => h) (.inl ⟨by rfl, fun W _ => by first | (go_simp; done) | (go_simp; exact hq2)⟩) hH3 ?_
          simp only [Act.put, List.setIfInBounds_toArray, List.set_cons_zero, List.set_cons_succ]
          refine wpAnyH_done (by kernel_rfl) ?_ _
          have hp3' := hide hp3
          clear hp3 hm hH hp
          go_wp2_with (at_mapUpdate; refine wpList_store_mg kk hkk rfl _ _ _ rfl rfl hH3 (by omega) rfl rfl ?_; intro w4 hm4 ho4)
          go_roundw
          case rel => exact ⟨j + 1, setW G (kk : Int), by omega, by omega, by go_num, pool_out ho4 (by omega) hp3'.out, hm4, sub_set A G hsub kk hak, ho4.below (ho3.below hbel3.drew hbl (Nat.le_trans hmb hsz3)) hmb (Nat.le_trans hbel3.size ho3.size)⟩
          case measure => simp [intOf]; omega
        · have hend : (¬ (j : Int) < (l.length : Int)) ∨ ((j : Int) < (l.length : Int) ∧ ¬ (j : Int) < 100) := by omega
          have hp3 := hide hp
          have hgt : G &&& A = G := hsub
          clear hp h3
          have tail3 : ∀ W : World, PoolAt W b A (freeW A G) → MapG W w2.heap.size j G → Below w.heap.size w W → True := fun _ _ _ _ => trivial
          clear tail3
          rcases hend with hend | ⟨hend1, hend⟩
          all_goals
            go_wp2_with (at_len; refine wpList_len_mg rfl _ rfl rfl hm ?_)
            go_loopw [15, 16] (fun la nn wr => ∃ (H : BitVec 64) (y0 : Int), la = .int .i64 y0 ∧ nn = .int .i64 ((onesL H).length : Int) ∧ PoolAt wr b A (freeW A H) ∧ MapG wr w2.heap.size j G ∧ H &&& A = H ∧ H &&& G = H ∧ (∀ y ∈ onesL H, y0 < y) ∧ Below w.heap.size w wr) (fun _ nn _ => (intOf nn).toNat)
            case atStart => exact ⟨G, -1, rfl, rfl, hp3.out, hm, hgt, by simp, fun y hy => by obtain ⟨m, _, _, rfl⟩ := (onesTo_mem G 64 y).1 hy; omega, hbel3⟩
            case round =>
              obtain ⟨H, y0, rfl, rfl, hp, hm, hsub2, hsub3, hlow, hbel4⟩ := hrel
              cases hL : onesL H with
              | nil =>
                have hz := ones_none H hL
                subst hz
                rw [free_zero] at hp
                have CF := free_at b A A HA.out _ hp
                have hfl : ((onesL (freeW A A)).length : Int) = 0 := by rw [free_self, hL]; rfl
                rw [hfl] at CF
                have CF := hide CF
                clear hL hp hfl hlow
                simp only [List.length_nil]
                go_wp2_with (go_at_call 14; refine CF.out.mono ?_; rintro e w4 ⟨rfl, hb4⟩)
                go_ret
                exact ⟨rfl, hbel4.trans (hb4.mono hbel4.size)⟩
              | cons y l' =>
                obtain ⟨q, rfl⟩ := ones_nat H y l' hL
                obtain ⟨hq1, hq2⟩ := ones_mem H q l' hL
                obtain ⟨ht1, ht2⟩ := ones_tail H (q : Int) l' hL
                have haq : A.getLsbD q = true := (sub_iff A H).1 hsub2 q hq1 hq2
                have hgq : G.getLsbD q = true := (sub_iff G H).1 hsub3 q hq1 hq2
                have hy0 : y0 < (q : Int) := hlow _ (by rw [hL]; simp)
                have hne : H ≠ 0#64 := fun e => by
                  rw [e, show onesL 0#64 = [] by decide] at hL
                  cases hL
                have CT := take_room b A (freeW A H) HA.out (free_ne A H hsub2 hne) q l' (by rw [free_free A H hsub2]; exact hL) _ hp
                rw [take_given A H q haq] at CT
                have CT := hide CT
                have hs1 := hide (sub_clr A H hsub2 (q : Int))
                have hs2 := hide (sub_clr G H hsub3 (q : Int))
                have HT1 := hide ht1
                have HT2 := hide ht2
                have HGQ := hide hgq
                have hpos : (0 : Int) < ((l'.length + 1 : Nat) : Int) := by omega
                have hwr : IntKind.i64.wrap (((l'.length + 1 : Nat) : Int) - 1) = (l'.length : Int) := by
                  have : (onesL H).length ≤ 64 := onesTo_length H 64
                  rw [hL] at this
                  simp only [List.length_cons] at this
                  rw [IntKind.wrap_i64]; omega
                have hMM := hide hm
                clear hL hp hlow ht1 ht2 hgq hq2 haq hne hsub2 hsub3
                simp only [List.length_cons]
                generalize hLL : ((l'.length + 1 : Nat) : Int) = LL at *
                have HLL := hide hLL
                clear hLL
                have hwr' := hide hwr
                go_wp2_with ((go_at_call 8; refine CT.out.mono ?_; rintro e w4 ⟨rfl, hp4, ho4⟩; have hm4 := mg_out ho4 (by omega) hMM.out; have hlk := lookup_mg hm4 q hq1; rw [HGQ.out] at hlk))
                go_roundw
                case rel => exact ⟨clrW H (q : Int), (q : Int), rfl, by rw [HT1.out], hp4, hm4, hs1.out, hs2.out, by rw [HT1.out]; exact HT2.out, ho4.below hbel4 hbl hbel4.size⟩
                case measure =>
                  have := HLL.out
                  simp [intOf]; omega

theorem walk (z : Int) (v : Value) (l : List Int) (w : World) (h : IsInts w l v) : Calls Try.prog 5 #[.int .i64 z, v] w fun e W' => e = .returned (.bool true) ∧ Below w.heap.size w W' := by
  obtain ⟨hbd, sa, cap, rfl, hl⟩ := h
  obtain ⟨h1, h2⟩ := low63 z
  exact walk_n z (bits .and .i64 z 63).toNat _ (by omega) rfl (by omega) l sa cap w hbd hl
open Go.ChangeShapes Go.WideShapes Go.ChangeAt
theorem walks : Frame.Walks 5 Try.f5 := by
  intro H enc W base args ds ps hval hA
  rw [Try.params5] at hA hval
  obtain ⟨v0, v1, d0, d1, p0, p1, hargs, rfl, rfl, h0, h1⟩ := trodAll_two hA
  obtain rfl : args = #[v0, v1] := by cases args; simp_all
  obtain ⟨x0, rfl, rfl, rfl, w0⟩ := open_int Try.underlying3 (hval 0 3 v0 rfl rfl) h0
  obtain ⟨l1, e1⟩ := open_list (hval 1 22 v1 rfl rfl) h1
  exact walk x0 v1 l1 W e1
set_option maxRecDepth 100000 in
theorem proved : Rows.FramesLowestSaid :=
  OpenClaim.holds_of_wide 5 Try.f5 rfl rfl rfl rfl rfl rfl rfl ⟨rfl, rfl, rfl, rfl, rfl⟩ rfl rfl rfl rfl rfl (by kernel_rfl) Try.func5 (by kernel_rfl)
    (of_decide_eq_true (by kernel_rfl)) (by unfold Func.isWrapper; first | (rw [if_pos (by decide +kernel)]; kernel_rfl) | (rw [if_neg (by decide +kernel)]; exact ⟨rfl, rfl⟩))
    (fun os started H enc _ => Frame.lift os started H enc _ _ Rows.framesLowestSpec 4 (by kernel_rfl) Try.func5 Try.underlying4 (by kernel_rfl) rfl (by kernel_rfl)
      (fun ds h => by match ds, h with | [_, _], _ => exact ⟨rfl, rfl, rfl⟩)
      (ChangeSpec.witness6 (enc := enc) (C := Try.checked) false ⟨#[], #[.int .i64 0, .slice none 0 0], []⟩ 8 (by kernel_rfl) (by kernel_rfl) (by kernel_rfl) (by kernel_rfl)) walks)
end Go.Proofs.Ytkblpbnppkfjnaa.FramesLowest
