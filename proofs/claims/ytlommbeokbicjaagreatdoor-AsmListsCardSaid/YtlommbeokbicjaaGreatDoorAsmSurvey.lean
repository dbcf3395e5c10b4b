/-
  What asm.survey answers: the lines that are kept, the marks, how many instructions.
-/
import Derived.Test.YtlommbeokbicjaaGreatDoorAsmSurv
namespace Go.Proofs.YtlommbeokbicjaaGreatDoor
open Go.RowKit InstMath AsmMath
open Go.Lib (itoa)

theorem info_line : (Tryz.prog.info? 66).map (fun i => (i.zero, i.size, i.bytes)) = some (some (.agg #[.int .i64 0, .int .i64 0, .slice none 0 0, .bool false]), 4, 48) := by kernel_rfl
theorem g_ne {W : World} {v : Value} {b : Nat} (h : v.ownBlock ≠ some b) (hlt : b < W.heap.size) : b ≠ v.ownBlock.getD W.heap.size := by
  cases hv : v.ownBlock with
  | none => simp; omega
  | some g => rw [hv] at h; simp; exact fun e => h (by rw [e])
theorem ob_gr {W W' : World} {v : Value} (hg : W.grownBy W' v.ownBlock) : OutB (v.ownBlock.getD W.heap.size) W W' := by
  refine ⟨hg.os, hg.tape, hg.output, hg.size, fun k hk hne => hg.block k hk (fun e => ?_)⟩
  rw [← e] at hne
  simp at hne
theorem own_new_ne {W : World} {base n size : Nat} {e : TypeId} {v : Value} {xs : List Value} {b : Nat} (h : W.ownsRow base e size v n xs) (hb : W.heap.size ≤ b) : v.ownBlock ≠ some b := fun e1 => by
  have := (h.lt b e1).2
  omega
theorem own_map_ne {W : World} {base n size : Nat} {e : TypeId} {v : Value} {xs : List Value} {mb k : Nat} {hh : List UInt8 → Option (Int × Int)} (h : W.ownsRow base e size v n xs) (hm : MapS W mb k hh) : v.ownBlock ≠ some mb := fun e1 => by
  rcases h.2 with ⟨rfl, _⟩ | ⟨g, cap, cur, rfl, _, h4, _⟩
  · simp [Value.ownBlock] at e1
  · obtain rfl : g = mb := by simpa [Value.ownBlock] using e1
    exact ms_ne hm ⟨cur, _, h4⟩ rfl
theorem owns_slice {W : World} {base n size : Nat} {e : TypeId} {v : Value} {xs : List Value} (h : W.ownsRow base e size v n xs) : ∃ a l c, v = .slice a l c := by
  rcases h.2 with ⟨rfl, _⟩ | ⟨g, cap, cur, rfl, _⟩
  · exact ⟨_, _, _, rfl⟩
  · exact ⟨_, _, _, rfl⟩
theorem c_own {W : World} {b i k : Nat} {u : Value} (h : Own W b k) (hi : i < k) : (W.setCell ⟨b, i, none⟩ u).cell? ⟨b, i, none⟩ = some u := cell_same _ _ _ (h.some i hi)
theorem isEmpty_no {l : List UInt8} (h : l ≠ []) : l.isEmpty = false := by
  cases l with
  | nil => exact absurd rfl h
  | cons _ _ => rfl
theorem ms_new {W : World} {b : Nat} (hb : b = W.heap.size) : MapS (W.alloc (.map #[] 0)) b 0 (fun _ => none) := by
  subst hb
  exact ms_made W
theorem cells_new (cs : List Value) (W : World) (t : TypeId) {b : Nat} (hb : b = W.heap.size) : ∀ j u, cs[j]? = some u → (W.alloc (.cells cs.toArray t)).cell? ((⟨b, 0, none⟩ : Addr).add j) = some u := by
  subst hb
  intro j u hj
  rw [show (⟨W.heap.size, 0, none⟩ : Addr).add j = ⟨W.heap.size, j, none⟩ by unfold Addr.add; split <;> simp_all]
  simp [go_sem, hj]
theorem grow_facts {W W' : World} {base n size : Nat} {e : TypeId} {v : Value} {xs : List Value} (h : W.ownsRow base e size v n xs) (he : e ≠ 9) (hg : W.grownBy W' v.ownBlock) :
    ∃ g, OutB g W W' ∧ (∀ (b : Nat) (t : TypeId), Typ W b t → t ≠ e → b ≠ g) ∧ (∀ (mb k : Nat) (hh : List UInt8 → Option (Int × Int)), MapS W mb k hh → mb ≠ g) ∧ (∀ b, b < W.heap.size → v.ownBlock ≠ some b → b ≠ g) ∧ SK W W' :=
  ⟨_, ob_gr hg, fun _ _ ht hne => g_ne (owns_ne h ht hne) ht.lt, fun _ _ _ hm => g_ne (own_map_ne h hm) hm.lt, fun _ hlt hne => g_ne hne hlt, sk_grown h he hg⟩
/-- What a call of survey leaves: the lines that are kept, the marks, the count; nothing that was there turns. -/
def SurveyedK (K : List Kp) (M : List UInt8 → Option (Int × Int)) (n : Nat) (w : World) (e : Ending) (w' : World) : Prop :=
  ∃ (v : Value) (xs : List Value) (mb m : Nat), e = .returned (.agg #[v, .map (some mb), .int .i64 (n : Int)]) ∧ Below w.heap.size w w' ∧ KpRel w' K xs ∧ w'.ownsRow w.heap.size 66 4 v K.length xs ∧ MapS w' mb m M ∧ w.heap.size ≤ mb
def Surveyed (L : List Ln) (w : World) (e : Ending) (w' : World) : Prop := SurveyedK (kpL 0 0 L) (marksOf L) (cntL L) w e w'

set_option maxRecDepth 100000 in
set_option maxHeartbeats 8000000 in
theorem survey_any (L : List Ln) (hL : L ≠ []) (hlen : L.length ≤ 16000) (hok : ∀ l ∈ L, LnOk l) (h10 : ∀ l ∈ L, (10 : UInt8) ∉ l.raw) (hs : (joinS [10] (L.map (·.raw))).length ≤ 100000)
    (huniq : ∀ (j : Nat) (l : Ln), L[j]? = some l → l.cls = 1 → marksOf (L.take j) l.txt = none) (w : World) (hG : G w) :
    Calls Tryz.prog 24 #[.string (str (joinS [10] (L.map (·.raw))))] w (Surveyed L w) := by
  have CSp : Hid (∀ W, G W → Calls Tryz.prog 56 #[.string (str (joinS [10] (L.map (·.raw)))), .string ⟨#[10]⟩] W fun e w' => e = .returned (.slice (some ⟨W.heap.size, 0, none⟩) L.length L.length) ∧ Below W.heap.size W w' ∧ StrsT w' W.heap.size (L.map (·.raw)) ∧ W.heap.size < w'.heap.size) := hide (fun W hG => by
    have := split_any 10 (L.map (·.raw)) (by simpa using hL) (fun r hr => by obtain ⟨l, hl, rfl⟩ := List.mem_map.1 hr; exact h10 l hl) (by omega) W hG
    rw [List.length_map] at this
    exact this.mono fun e w' ⟨a, b, c, d, f⟩ => ⟨a, b, ⟨f, c⟩, d⟩)
  have CT : Hid (∀ (r : List UInt8) W, G W → Calls Tryz.prog 57 #[.string (str r), .string ⟨#[32]⟩] W (Makes (.string (str (Lib.trimLeftB r 32))) W)) := hide (fun r W _ => trimLeft_any r W)
  have HOK := hide hok
  have HU := hide huniq
  clear hok huniq h10
  generalize str (joinS [10] (L.map (·.raw))) = TX at *
  clear hs
  have hmm := @run_makeMap Tryz.prog
  obtain ⟨iL, hi, hz0, hz1, hz2⟩ := info_parts info_line
  have SS := cell_same
  have LB' := ltB_add
  have LS := ltB_self
  have LA' := alloc_reads
  have LH := alloc_holds
  go_enter Tryz.func24, Tryz.ntmps24
  go_wp2_with (first | (go_at_call 56; (with_reducible refine (CSp.out _ ?_).mono ?_); (focus (refine hG.behind ?_; repeat (first | with_reducible assumption | with_reducible exact Below.refl _ _ | with_reducible refine Below.drew ?_ | with_reducible refine below_drewN ?_ _ | with_reducible refine bw_alloc ?_ _ | (with_reducible refine bw_set ?_ ?_ _; focus (dsimp only; omega)) | (with_reducible apply bw_behind; with_reducible assumption)))); rintro e w1 ⟨rfl, hb1, ht1, hl1⟩; have hr1 := below_reads hb1; have hh1 := below_holds hb1; obtain ⟨m1, hs1⟩ := below_grew hb1))
  refine wp_abs (fun W => Below w.heap.size w W ∧ (W.cell? ⟨w.heap.size + 1 + 1, 0, none⟩ = some (.slice none 0 0) ∧ W.cell? ⟨w.heap.size + 1 + 1, 1, none⟩ = some (.map (some (w.heap.size + 1))) ∧ W.cell? ⟨w.heap.size + 1 + 1, 2, none⟩ = some (.int .i64 0)) ∧ (Own W (w.heap.size + 1 + 1) 3 ∧ Typ W (w.heap.size + 1 + 1) 63 ∧ Own W w.heap.size 3 ∧ Typ W w.heap.size 63) ∧ MapS W (w.heap.size + 1) 0 (fun _ => none) ∧ StrsT W (w.heap.size + 1 + 1 + 1) (L.map (·.raw)) ∧ w.heap.size + 1 + 1 + 1 < W.heap.size) ?_ ?_
  · refine ⟨?_, ⟨?_, ?_, ?_⟩, ⟨?_, ?_, ?_, ?_⟩, ?_, ?_, ?_⟩
    · repeat (first | with_reducible assumption | with_reducible exact Below.refl _ _ | with_reducible refine Below.drew ?_ | with_reducible refine below_drewN ?_ _ | with_reducible refine bw_alloc ?_ _ | (with_reducible refine bw_set ?_ ?_ _; focus (dsimp only; omega)) | (with_reducible apply bw_behind; with_reducible assumption))
    · simp (maxDischargeDepth := 4) [go_sem, *]
    · simp (maxDischargeDepth := 4) [go_sem, *]
    · simp (maxDischargeDepth := 4) [go_sem, *]
    · exact o_be hb1 (o_new (by simp) (by simp))
    · exact typ_be hb1 (typ_new (by simp))
    · exact o_be hb1 (o_al _ (o_al _ (o_new rfl (by simp))))
    · exact typ_be hb1 (typ_al _ (typ_al _ (typ_new rfl)))
    · exact ms_be hb1 (ms_al _ (ms_new (by simp)))
    · simpa using ht1
    · simpa using hl1
  rintro w0 ⟨hB0, ⟨c0, c1, c2⟩, ⟨oP, tP, o0, t0⟩, hm0, hT0, hz⟩
  clear ht1 hb1 hr1 hh1 hs1 hl1 CSp
  have q1 : w.heap.size < w.heap.size + 1 := by omega
  have q2 : w.heap.size + 1 < w.heap.size + 1 + 1 := by omega
  have q3 : w.heap.size + 1 + 1 < w.heap.size + 1 + 1 + 1 := by omega
  generalize w.heap.size + 1 + 1 + 1 = T at *
  generalize w.heap.size + 1 + 1 = P at *
  generalize w.heap.size + 1 = mb at *
  go_loopw [14] (fun i wr => ∃ (j m : Nat) (v : Value) (xs : List Value), j ≤ L.length ∧ i = .int .i64 (j : Int) ∧ m ≤ j ∧ Below w.heap.size w wr ∧ Hid (KpRel wr (kpL 0 0 (L.take j)) xs) ∧ Hid (wr.ownsRow w.heap.size 66 4 v (kpL 0 0 (L.take j)).length xs) ∧
      (wr.cell? ⟨P, 0, none⟩ = some v ∧ wr.cell? ⟨P, 1, none⟩ = some (.map (some mb)) ∧ wr.cell? ⟨P, 2, none⟩ = some (.int .i64 (cntL (L.take j) : Int))) ∧ (Own wr P 3 ∧ Typ wr P 63 ∧ Own wr w.heap.size 3 ∧ Typ wr w.heap.size 63) ∧ MapS wr mb m (marksOf (L.take j)) ∧ StrsT wr T (L.map (·.raw))) (fun i _ => L.length - (intOf i).toNat)
  case atStart => exact ⟨0, 0, .slice none 0 0, [], by omega, rfl, by omega, hB0, hide trivial, hide (World.ownsRow_nil _ _ _ _), ⟨c0, c1, c2⟩, ⟨oP, tP, o0, t0⟩, hm0, hT0⟩
  case round =>
    clear hB0 c0 c1 c2 oP tP o0 t0 hm0 hT0 hz
    obtain ⟨j, m, v, xs, hj, rfl, hmj, hB, hkp, hown, ⟨c0, c1, c2⟩, ⟨oP, tP, o0, t0⟩, hm, hT⟩ := hrel
    obtain ⟨va, vl, vc, rfl⟩ := owns_slice hown.out
    have fP0 := oP.free 0 (by omega)
    have fP2 := oP.free 2 (by omega)
    have lP := tP.lt
    have lP0 := t0.lt
    have lmb := hm.lt
    have kP : ltB P wr.heap.size = true := by unfold ltB; simpa using lP
    have kP0 : ltB w.heap.size wr.heap.size = true := by unfold ltB; simpa using lP0
    by_cases hlt : j < L.length
    · obtain ⟨l, hl⟩ : ∃ l, L[j] = l := ⟨_, rfl⟩
      have hjl : L[j]? = some l := by rw [List.getElem?_eq_getElem hlt, hl]
      have hmem : l ∈ L := hl ▸ List.getElem_mem hlt
      have htx := hT.2 j l.raw (by rw [List.getElem?_map, hjl]; rfl)
      have CT1 := hide (CT.out l.raw)
      have htake : L.take (j + 1) = L.take j ++ [l] := by rw [List.take_succ_eq_append_getElem hlt, hl]
      have hcnt := cnt_le (L.take j)
      have hkl := kp_le 0 0 (L.take j)
      have hjlen : (L.take j).length = j := by rw [List.length_take]; omega
      rw [hjlen] at hcnt hkl
      have HC := hide (cnt_snoc (L.take j) l)
      have HK := hide (kp_snoc (L.take j) l 0 0)
      have HM := hide (mk_snoc (L.take j) l 0 (fun _ => none))
      rw [hjlen] at HK
      have HT := hide htake
      have hun := HU.out j l hjl
      clear hl htake
      generalize str l.raw = RAW at *
      rcases HOK.out l hmem with h | h | h
      · -- skipped
        obtain ⟨hc, ht⟩ := h
        have e1 : L.take (j + 1) = L.take j ++ [l] := HT.out
        have eC : cntL (L.take (j + 1)) = cntL (L.take j) := by rw [e1, HC.out]; unfold isI; rw [hc]; rfl
        have eK : kpL 0 0 (L.take (j + 1)) = kpL 0 0 (L.take j) := by rw [e1, HK.out, hc]; simp
        have eM : marksOf (L.take (j + 1)) = marksOf (L.take j) := by unfold marksOf; rw [e1, HM.out, hc]; simp
        have EQ := hide (And.intro eC (And.intro eK eM))
        clear eC eK eM e1 HC HK HM HT hun hc hcnt
        rcases ht with ht | ⟨r, ht⟩
        · have z1 : (str (Lib.trimLeftB l.raw 32)).toList = [] := by rw [str_toList, ht]
          have z2 : (str (Lib.trimLeftB l.raw 32)).toList.isEmpty = true := by rw [z1]; rfl
          clear ht
          generalize str (Lib.trimLeftB l.raw 32) = Z at *
          go_wp2_with (first | (go_at_call 57; (first | ((with_reducible refine (CT1.out _ ?_).mono ?_); (focus (refine hG.behind ?_; repeat (first | with_reducible assumption | with_reducible exact Below.refl _ _ | with_reducible refine Below.drew ?_ | with_reducible refine below_drewN ?_ _ | with_reducible refine bw_alloc ?_ _ | (with_reducible refine bw_set ?_ ?_ _; focus (dsimp only; omega)) | (with_reducible apply bw_behind; with_reducible assumption)))))); rintro e w2 ⟨rfl, hb2⟩; have hr2 := below_reads hb2; have hh2 := below_holds hb2; obtain ⟨m2, hs2⟩ := below_grew hb2))
          go_roundw
          case rel =>
            refine ⟨j + 1, m, .slice va vl vc, xs, by omega, by go_num, by omega, ?_⟩
            rw [EQ.out.1, EQ.out.2.1, EQ.out.2.2]
            exact ⟨by (repeat (first | with_reducible assumption | with_reducible exact Below.refl _ _ | with_reducible refine Below.drew ?_ | with_reducible refine below_drewN ?_ _ | with_reducible refine bw_alloc ?_ _ | (with_reducible refine bw_set ?_ ?_ _; focus (dsimp only; omega)) | (with_reducible apply bw_behind; with_reducible assumption))), hide (hkp.out.keep (sk_be hb2)), hide (owns_be hb2 hown.out), ⟨c_be hb2 c0, c_be hb2 c1, c_be hb2 c2⟩, ⟨o_be hb2 oP, typ_be hb2 tP, o_be hb2 o0, typ_be hb2 t0⟩, ms_be hb2 hm, hT.keep (sk_be hb2)⟩
          case measure => simp [intOf]; omega
        · have z1 : ¬ (str (Lib.trimLeftB l.raw 32)).toList = [] := by rw [str_toList, ht]; simp
          have z2 : (str (Lib.trimLeftB l.raw 32)).toList.isEmpty = false := by rw [str_toList, ht]; rfl
          have z3 : ∀ W, (Instr.index 9 (.string (str (Lib.trimLeftB l.raw 32))) (.int .i64 0)).run Tryz.prog W = .ok (.int .u8 35) W := by rw [ht]; exact index_text (l := 35 :: r) (i := 0) (by simp)
          clear ht
          generalize str (Lib.trimLeftB l.raw 32) = Z at *
          go_wp2_with (first | (go_at_call 57; (first | ((with_reducible refine (CT1.out _ ?_).mono ?_); (focus (refine hG.behind ?_; repeat (first | with_reducible assumption | with_reducible exact Below.refl _ _ | with_reducible refine Below.drew ?_ | with_reducible refine below_drewN ?_ _ | with_reducible refine bw_alloc ?_ _ | (with_reducible refine bw_set ?_ ?_ _; focus (dsimp only; omega)) | (with_reducible apply bw_behind; with_reducible assumption)))))); rintro e w2 ⟨rfl, hb2⟩; have hr2 := below_reads hb2; have hh2 := below_holds hb2; obtain ⟨m2, hs2⟩ := below_grew hb2))
          go_roundw
          case rel =>
            refine ⟨j + 1, m, .slice va vl vc, xs, by omega, by go_num, by omega, ?_⟩
            rw [EQ.out.1, EQ.out.2.1, EQ.out.2.2]
            exact ⟨by (repeat (first | with_reducible assumption | with_reducible exact Below.refl _ _ | with_reducible refine Below.drew ?_ | with_reducible refine below_drewN ?_ _ | with_reducible refine bw_alloc ?_ _ | (with_reducible refine bw_set ?_ ?_ _; focus (dsimp only; omega)) | (with_reducible apply bw_behind; with_reducible assumption))), hide (hkp.out.keep (sk_be hb2)), hide (owns_be hb2 hown.out), ⟨c_be hb2 c0, c_be hb2 c1, c_be hb2 c2⟩, ⟨o_be hb2 oP, typ_be hb2 tP, o_be hb2 o0, typ_be hb2 t0⟩, ms_be hb2 hm, hT.keep (sk_be hb2)⟩
          case measure => simp [intOf]; omega
      · -- mark
        obtain ⟨hc, ht, hn⟩ := h
        have hun1 := hun hc
        have hne0 : l.txt ++ [58] ≠ [] := by simp
        have hhd : ∀ (h : 0 < (l.txt ++ [58]).length), ((l.txt ++ [58])[0].toNat : Int) ≠ 35 := fun _ => by
          have hp : 0 < l.txt.length := List.length_pos_iff.2 hn.ne
          rw [List.getElem_append_left hp]
          have := hn.head hp
          unfold ltrB at this
          simp at this
          omega
        have hnl := hn.len
        have CM := hide (show ∀ W, G W → Calls Tryz.prog 58 #[.string (str (Lib.trimLeftB l.raw 32))] W (Makes (.tuple #[.string (str l.txt), .bool true]) W) from fun W hG => by rw [ht]; exact mark_yes l.txt hn W hG)
        have CA := hide (show ∀ W, W.cell? ⟨P, 1, none⟩ = some (.map (some mb)) → W.cell? ⟨P, 2, none⟩ = some (.int .i64 (cntL (L.take j) : Int)) → MapS W mb m (marksOf (L.take j)) →
            Calls Tryz.prog 59 #[.pointer (some ⟨P, 0, none⟩), .string (str l.txt)] W fun e w' => e = .returned (.bool false) ∧ MapS w' mb (m + 1) (updS (marksOf (L.take j)) l.txt ((cntL (L.take j) : Int), 1)) ∧ OutB mb W w' from
          fun W a b c => add_new P mb m _ _ l.txt (by omega) (by omega) hun1 W a b c)
        have e1 : L.take (j + 1) = L.take j ++ [l] := HT.out
        have eC : cntL (L.take (j + 1)) = cntL (L.take j) := by rw [e1, HC.out]; unfold isI; rw [hc]; rfl
        have eK : kpL 0 0 (L.take (j + 1)) = kpL 0 0 (L.take j) ++ [⟨j + 1, cntL (L.take j), none⟩] := by rw [e1, HK.out, hc]; simp
        have eM : marksOf (L.take (j + 1)) = updS (marksOf (L.take j)) l.txt ((cntL (L.take j) : Int), 1) := by unfold marksOf; rw [e1, HM.out, hc]; simp
        have hTX := hide ht
        have EQ := hide (And.intro eC (And.intro eK eM))
        have z1 : ¬ (str (Lib.trimLeftB l.raw 32)).toList = [] := by rw [str_toList, ht]; exact hne0
        have z2 : (str (Lib.trimLeftB l.raw 32)).toList.isEmpty = false := by rw [str_toList, ht]; exact isEmpty_no hne0
        obtain ⟨c0h, z3, z4⟩ : ∃ c : Nat, (∀ W, (Instr.index 9 (.string (str (Lib.trimLeftB l.raw 32))) (.int .i64 0)).run Tryz.prog W = .ok (.int .u8 (c : Int)) W) ∧ (c : Int) ≠ 35 := by
          rw [ht]
          have hp : 0 < (l.txt ++ [58]).length := List.length_pos_iff.2 hne0
          exact ⟨_, index_text (l := l.txt ++ [58]) (i := 0) hp, hhd hp⟩
        have z5 : ((c0h : Int) == 35) = false := by simpa using z4
        clear e1 eC eK eM HC HK HM HT hun hc ht hne0 hhd hun1 hn
        generalize str (Lib.trimLeftB l.raw 32) = Z at *
        generalize cntL (L.take j) = C at *
        generalize kpL 0 0 (L.take j) = K at *
        generalize marksOf (L.take j) = H at *
        generalize l.txt = NMT at *
        go_upto_region 10 with (first | (go_at_call 57; (first | ((with_reducible refine (CT1.out _ ?_).mono ?_); (focus (refine hG.behind ?_; repeat (first | with_reducible assumption | with_reducible exact Below.refl _ _ | with_reducible refine Below.drew ?_ | with_reducible refine below_drewN ?_ _ | with_reducible refine bw_alloc ?_ _ | (with_reducible refine bw_set ?_ ?_ _; focus (dsimp only; omega)) | (with_reducible apply bw_behind; with_reducible assumption)))))); rintro e w2 ⟨rfl, hb2⟩; have hr2 := below_reads hb2; have hh2 := below_holds hb2; obtain ⟨m2, hs2⟩ := below_grew hb2) | (go_at_call 58; (first | ((with_reducible refine (CM.out _ ?_).mono ?_); (focus (refine hG.behind ?_; repeat (first | with_reducible assumption | with_reducible exact Below.refl _ _ | with_reducible refine Below.drew ?_ | with_reducible refine below_drewN ?_ _ | with_reducible refine bw_alloc ?_ _ | (with_reducible refine bw_set ?_ ?_ _; focus (dsimp only; omega)) | (with_reducible apply bw_behind; with_reducible assumption)))))); rintro e w3 ⟨rfl, hb3⟩; have hr3 := below_reads hb3; have hh3 := below_holds hb3; obtain ⟨m3, hs3⟩ := below_grew hb3))
        refine wp_abs (fun W => Below wr.heap.size wr W ∧ (W.cell? ⟨wr.heap.size + m2, 0, none⟩ = some (.int .i64 ((j : Int) + 1)) ∧ W.cell? ⟨wr.heap.size + m2, 1, none⟩ = some (.int .i64 (C : Int)) ∧ W.cell? ⟨wr.heap.size + m2, 2, none⟩ = some (.slice none 0 0) ∧ W.cell? ⟨wr.heap.size + m2, 3, none⟩ = some (.bool false)) ∧ Own W (wr.heap.size + m2) 4 ∧ Typ W (wr.heap.size + m2) 66) ?_ ?_
        · refine ⟨?_, ⟨?_, ?_, ?_, ?_⟩, ?_, ?_⟩
          · repeat (first | with_reducible assumption | with_reducible exact Below.refl _ _ | with_reducible refine Below.drew ?_ | with_reducible refine below_drewN ?_ _ | with_reducible refine bw_alloc ?_ _ | (with_reducible refine bw_set ?_ ?_ _; focus (dsimp only; omega)) | (with_reducible apply bw_behind; with_reducible assumption))
          · simp (maxDischargeDepth := 4) [go_sem, *]
          · simp (maxDischargeDepth := 4) [go_sem, *]
          · simp (maxDischargeDepth := 4) [go_sem, *]
          · simp (maxDischargeDepth := 4) [go_sem, *]
          · exact o_be hb3 (o_new (by simp [*]) (by simp))
          · exact typ_be hb3 (typ_new (by simp [*]))
        rintro w5 ⟨hb5, ⟨l0, l1, l2, l3⟩, ol, tl⟩
        have hlb : wr.heap.size ≤ wr.heap.size + m2 := by omega
        clear hb3 hr3 hh3 hs3 hb2 hr2 hh2 hs2 CT1 CM htx
        generalize wr.heap.size + m2 = lb at *
        have hB5 := bw_behind hb5 hB
        have hwl : w.heap.size ≤ lb := by have := hB.size; omega
        have hwP : w.heap.size ≤ P := by omega
        have d0 := c_be hb5 c0
        have d1 := c_be hb5 c1
        have d2 := c_be hb5 c2
        have oP5 := o_be hb5 oP
        have tP5 := typ_be hb5 tP
        have o05 := o_be hb5 o0
        have t05 := typ_be hb5 t0
        have hm5 := ms_be hb5 hm
        have ho5 := hide (owns_be hb5 hown.out)
        have hnl5 := own_new_ne hown.out hlb
        have hkp5 := hide (hkp.out.keep (sk_be hb5))
        have hT5 := hT.keep (sk_be hb5)
        have llb := tl.lt
        have nlP : P ≠ lb := by omega
        have nl0 : w.heap.size ≠ lb := by omega
        have nlm : mb ≠ lb := by omega
        clear hb5 hB c0 c1 c2 oP tP o0 t0 hm hown hkp hT
        clear fP0 fP2 lP lP0 lmb kP kP0
        have lb5 : ltB lb w5.heap.size = true := by unfold ltB; simpa using llb
        have fl := ol.free 3 (by omega)
        go_upto_region 12 with (first | (go_at_call 59; (with_reducible refine (CA.out _ ?_ ?_ ?_).mono ?_); (focus (with_reducible assumption)); (focus (with_reducible assumption)); (focus (with_reducible assumption)); rintro e w6 ⟨rfl, hm6, hob6⟩; have x3 := ob_cell hob6 (Ne.symm nlm) l3; have ol6 := ob_own hob6 (Ne.symm nlm) ol; have f3 := ol6.free 3 (by omega)))
        refine wp_abs (fun W => Below w.heap.size w W ∧ StrsT W T (L.map (·.raw)) ∧ Hid (KpRel W K xs) ∧ Hid (W.ownsRow w.heap.size 66 4 (.slice va vl vc) K.length xs) ∧ (W.cell? ⟨P, 0, none⟩ = some (.slice va vl vc) ∧ W.cell? ⟨P, 1, none⟩ = some (.map (some mb)) ∧ W.cell? ⟨P, 2, none⟩ = some (.int .i64 (C : Int))) ∧ (Own W P 3 ∧ Typ W P 63 ∧ Own W w.heap.size 3 ∧ Typ W w.heap.size 63) ∧ MapS W mb (m + 1) (updS H NMT ((C : Int), 1)) ∧
            (W.cell? ⟨lb, 0, none⟩ = some (.int .i64 ((j : Int) + 1)) ∧ W.cell? ⟨lb, 1, none⟩ = some (.int .i64 (C : Int)) ∧ W.cell? ⟨lb, 2, none⟩ = some (.slice none 0 0) ∧ W.cell? ⟨lb, 3, none⟩ = some (.bool false)) ∧ Typ W lb 66 ∧ (Value.slice va vl vc).ownBlock ≠ some lb) ?_ ?_
        · have tl6 := typ_ob hob6 (Ne.symm nlm) tl
          have sk6 : SK w5 (w6.setCell ⟨lb, 3, none⟩ (.bool false)) := sk_trans (sk_ob hm5 hob6) (sk_set tl6 (by decide))
          have nPm : P ≠ mb := by omega
          have n0m : w.heap.size ≠ mb := by omega
          refine ⟨?_, hT5.keep sk6, hide (hkp5.out.keep sk6), hide (owns_set hnl5 (ob_owns hob6 (own_map_ne ho5.out hm5) ho5.out)), ⟨?_, ?_, ?_⟩, ⟨?_, ?_, ?_, ?_⟩, ?_, ⟨?_, ?_, ?_, ?_⟩, ?_, hnl5⟩
          · have hB6 := OutB.below hB5 (by omega) hB5.size hob6
            repeat (first | with_reducible assumption | with_reducible exact Below.refl _ _ | with_reducible refine Below.drew ?_ | with_reducible refine below_drewN ?_ _ | with_reducible refine bw_alloc ?_ _ | (with_reducible refine bw_set ?_ ?_ _; focus (dsimp only; omega)) | (with_reducible apply bw_behind; with_reducible assumption))
          · repeat (first | with_reducible assumption | with_reducible refine c_dr _ ?_ | with_reducible refine c_d1 ?_ | with_reducible refine c_hit2 ?_ | (with_reducible refine c_off ?_ ?_; focus (decide)) | (with_reducible refine c_set ?_ ?_; focus (dsimp only; omega)) | with_reducible refine c_al _ ?_ | (with_reducible apply c_be; with_reducible assumption) | (with_reducible apply ob_cell; with_reducible assumption; focus (dsimp only; omega)))
          · repeat (first | with_reducible assumption | with_reducible refine c_dr _ ?_ | with_reducible refine c_d1 ?_ | with_reducible refine c_hit2 ?_ | (with_reducible refine c_off ?_ ?_; focus (decide)) | (with_reducible refine c_set ?_ ?_; focus (dsimp only; omega)) | with_reducible refine c_al _ ?_ | (with_reducible apply c_be; with_reducible assumption) | (with_reducible apply ob_cell; with_reducible assumption; focus (dsimp only; omega)))
          · repeat (first | with_reducible assumption | with_reducible refine c_dr _ ?_ | with_reducible refine c_d1 ?_ | with_reducible refine c_hit2 ?_ | (with_reducible refine c_off ?_ ?_; focus (decide)) | (with_reducible refine c_set ?_ ?_; focus (dsimp only; omega)) | with_reducible refine c_al _ ?_ | (with_reducible apply c_be; with_reducible assumption) | (with_reducible apply ob_cell; with_reducible assumption; focus (dsimp only; omega)))
          · exact o_set (ob_own hob6 nPm oP5)
          · exact typ_set (typ_ob hob6 nPm tP5)
          · exact o_set (ob_own hob6 n0m o05)
          · exact typ_set (typ_ob hob6 n0m t05)
          · exact ms_set (by dsimp only; omega) hm6
          · repeat (first | with_reducible assumption | with_reducible refine c_dr _ ?_ | with_reducible refine c_d1 ?_ | with_reducible refine c_hit2 ?_ | (with_reducible refine c_off ?_ ?_; focus (decide)) | (with_reducible refine c_set ?_ ?_; focus (dsimp only; omega)) | with_reducible refine c_al _ ?_ | (with_reducible apply c_be; with_reducible assumption) | (with_reducible apply ob_cell; with_reducible assumption; focus (dsimp only; omega)))
          · repeat (first | with_reducible assumption | with_reducible refine c_dr _ ?_ | with_reducible refine c_d1 ?_ | with_reducible refine c_hit2 ?_ | (with_reducible refine c_off ?_ ?_; focus (decide)) | (with_reducible refine c_set ?_ ?_; focus (dsimp only; omega)) | with_reducible refine c_al _ ?_ | (with_reducible apply c_be; with_reducible assumption) | (with_reducible apply ob_cell; with_reducible assumption; focus (dsimp only; omega)))
          · repeat (first | with_reducible assumption | with_reducible refine c_dr _ ?_ | with_reducible refine c_d1 ?_ | with_reducible refine c_hit2 ?_ | (with_reducible refine c_off ?_ ?_; focus (decide)) | (with_reducible refine c_set ?_ ?_; focus (dsimp only; omega)) | with_reducible refine c_al _ ?_ | (with_reducible apply c_be; with_reducible assumption) | (with_reducible apply ob_cell; with_reducible assumption; focus (dsimp only; omega)))
          · repeat (first | with_reducible assumption | with_reducible refine c_dr _ ?_ | with_reducible refine c_d1 ?_ | with_reducible refine c_hit2 ?_ | (with_reducible refine c_off ?_ ?_; focus (decide)) | (with_reducible refine c_set ?_ ?_; focus (dsimp only; omega)) | with_reducible refine c_al _ ?_ | (with_reducible apply c_be; with_reducible assumption) | (with_reducible apply ob_cell; with_reducible assumption; focus (dsimp only; omega)))
          · exact typ_set tl6
        -- w7: the line is whole
        rintro w7 ⟨hB7, hT7, hkp7, ho7, ⟨e0, e1, e2⟩, ⟨oP7, tP7, o07, t07⟩, hm7, ⟨k0, k1, k2, k3⟩, tl7, hnl7⟩
        have hsz7 := hB7.size
        have lP7 := tP7.lt
        have l07 := t07.lt
        have ll7 := tl7.lt
        go_wp2_with (first | (at_builtin; refine wpList_append_own _ rfl _ _ 60 rfl w.heap.size 66 iL (.agg #[.int .i64 0, .int .i64 0, .slice none 0 0, .bool false]) 4 48 Tryz.underlying60 hi hz0 hz1 hz2 rfl (by decide) _ _ _ rfl (owns_al _ ho7.out) _ 1 1 [.int .i64 ((j : Int) + 1), .int .i64 (C : Int), .slice none 0 0, .bool false] rfl rfl (cells_new _ _ _ rfl) (fun x hx => by simp at hx; rcases hx with rfl | rfl | rfl | rfl <;> rfl) (by unfold maxLen; omega) (by omega) (by simp; omega) ?_; intro v' w8 hown' hgrow hnil'; obtain ⟨va', vl', vc', rfl⟩ := owns_slice hown'; obtain ⟨g, hob, hg1, hg2, hg3, hsk⟩ := grow_facts (owns_al _ ho7.out) (by decide) hgrow; have nP := hg1 P _ (typ_al _ tP7) (by decide); have n0 := hg1 _ _ (typ_al _ t07) (by decide); have nm := hg2 _ _ _ (ms_al _ hm7); have nl := hg3 lb (by simp; omega) hnl7; have y0 := ob_cell hob nP (c_al _ e0); have y1 := ob_cell hob nP (c_al _ e1); have y2 := ob_cell hob nP (c_al _ e2); have yl := ob_cell hob nl (c_al _ k2); have oP8 := ob_own hob nP (o_al _ oP7); have o08 := ob_own hob n0 (o_al _ o07); have tP8 := typ_ob hob nP (typ_al _ tP7); have t08 := typ_ob hob n0 (typ_al _ t07); have hm8 := ms_ob hob nm (ms_al _ hm7); have f0 := oP8.free 0 (by omega); have f2 := oP8.free 2 (by omega); have hB8 := (bw_alloc hB7 _).grown hgrow (by simp; omega) (row_base ho7.out); have hsk8 := sk_trans (sk_al _ _) hsk))
        go_roundw
        case rel =>
          refine ⟨j + 1, m + 1, .slice va' vl' vc', xs ++ [.int .i64 ((j : Int) + 1), .int .i64 (C : Int), .slice none 0 0, .bool false], by omega, by go_num, by omega, ?_⟩
          rw [EQ.out.1, EQ.out.2.1, EQ.out.2.2]
          have hne' := owns_ne hown' tP8 (by decide)
          refine ⟨?_, hide ?_, hide ?_, ⟨?_, ?_, ?_⟩, ⟨?_, ?_, ?_, ?_⟩, ?_, ?_⟩
          · repeat (first | with_reducible assumption | with_reducible exact Below.refl _ _ | with_reducible refine Below.drew ?_ | with_reducible refine below_drewN ?_ _ | with_reducible refine bw_alloc ?_ _ | (with_reducible refine bw_set ?_ ?_ _; focus (dsimp only; omega)) | (with_reducible apply bw_behind; with_reducible assumption))
          · exact (KpRel.snoc (k := ⟨j + 1, C, none⟩) (show TxtV _ _ none from rfl) (hkp7.out.keep hsk8)).keep (sk_trans (sk_set tP8 (by decide)) (sk_set (typ_set tP8) (by decide)))
          · rw [List.length_append]
            exact owns_set hne' (owns_set hne' hown')
          · exact c_off (by decide) (c_own oP8 (by omega))
          · repeat (first | with_reducible assumption | with_reducible refine c_dr _ ?_ | with_reducible refine c_d1 ?_ | with_reducible refine c_hit2 ?_ | (with_reducible refine c_off ?_ ?_; focus (decide)) | (with_reducible refine c_set ?_ ?_; focus (dsimp only; omega)) | with_reducible refine c_al _ ?_ | (with_reducible apply c_be; with_reducible assumption) | (with_reducible apply ob_cell; with_reducible assumption; focus (dsimp only; omega)))
          · exact c_own (o_set oP8) (by omega)
          · exact o_set (o_set oP8)
          · exact typ_set (typ_set tP8)
          · exact o_set (o_set o08)
          · exact typ_set (typ_set t08)
          · exact ms_set (by dsimp only; omega) (ms_set (by dsimp only; omega) hm8)
          · exact (hT7.keep hsk8).keep (sk_trans (sk_set tP8 (by decide)) (sk_set (typ_set tP8) (by decide)))
        case measure => simp [intOf]; omega
      · -- instruction
        obtain ⟨hc, ht, hpl, htl⟩ := h
        have hne0 := hpl.ne
        have hhd : ∀ (h : 0 < l.txt.length), (l.txt[0].toNat : Int) ≠ 35 := fun h e => hpl.hash h (by
          have : l.txt[0].toNat = (35 : UInt8).toNat := by have h2 : l.txt[0].toNat = 35 := by omega
                                                           exact h2
          exact UInt8.toNat_inj.1 this)
        have CM := hide (show ∀ W, G W → Calls Tryz.prog 58 #[.string (str (Lib.trimLeftB l.raw 32))] W (Makes (.tuple #[.string ⟨#[]⟩, .bool false]) W) from fun W hG => by rw [ht]; exact mark_no l.txt hpl.colon (by omega) W hG)
        have CI := hide (show ∀ W, G W → Calls Tryz.prog 60 #[.string (str (Lib.trimLeftB l.raw 32))] W (OneText l.txt W) from fun W hG => by rw [ht]; exact instructions_any l.txt hpl W hG)
        have e1 : L.take (j + 1) = L.take j ++ [l] := HT.out
        have eC : cntL (L.take (j + 1)) = cntL (L.take j) + 1 := by rw [e1, HC.out]; unfold isI; rw [hc]; rfl
        have eK : kpL 0 0 (L.take (j + 1)) = kpL 0 0 (L.take j) ++ [⟨j + 1, cntL (L.take j), some l.txt⟩] := by rw [e1, HK.out, hc]; simp
        have eM : marksOf (L.take (j + 1)) = marksOf (L.take j) := by unfold marksOf; rw [e1, HM.out, hc]; simp
        have hTX := hide ht
        have EQ := hide (And.intro eC (And.intro eK eM))
        have z1 : ¬ (str (Lib.trimLeftB l.raw 32)).toList = [] := by rw [str_toList, ht]; exact hne0
        have z2 : (str (Lib.trimLeftB l.raw 32)).toList.isEmpty = false := by rw [str_toList, ht]; exact isEmpty_no hne0
        obtain ⟨c0h, z3, z4⟩ : ∃ c : Nat, (∀ W, (Instr.index 9 (.string (str (Lib.trimLeftB l.raw 32))) (.int .i64 0)).run Tryz.prog W = .ok (.int .u8 (c : Int)) W) ∧ (c : Int) ≠ 35 := by
          rw [ht]
          have hp : 0 < (l.txt).length := List.length_pos_iff.2 hne0
          exact ⟨_, index_text (l := l.txt) (i := 0) hp, hhd hp⟩
        have z5 : ((c0h : Int) == 35) = false := by simpa using z4
        clear e1 eC eK eM HC HK HM HT hun hc ht hne0 hhd hpl htl
        generalize str (Lib.trimLeftB l.raw 32) = Z at *
        generalize cntL (L.take j) = C at *
        generalize kpL 0 0 (L.take j) = K at *
        generalize marksOf (L.take j) = H at *
        generalize l.txt = NMT at *
        go_upto_region 11 with (first | (go_at_call 57; (first | ((with_reducible refine (CT1.out _ ?_).mono ?_); (focus (refine hG.behind ?_; repeat (first | with_reducible assumption | with_reducible exact Below.refl _ _ | with_reducible refine Below.drew ?_ | with_reducible refine below_drewN ?_ _ | with_reducible refine bw_alloc ?_ _ | (with_reducible refine bw_set ?_ ?_ _; focus (dsimp only; omega)) | (with_reducible apply bw_behind; with_reducible assumption)))))); rintro e w2 ⟨rfl, hb2⟩; have hr2 := below_reads hb2; have hh2 := below_holds hb2; obtain ⟨m2, hs2⟩ := below_grew hb2) | (go_at_call 58; (first | ((with_reducible refine (CM.out _ ?_).mono ?_); (focus (refine hG.behind ?_; repeat (first | with_reducible assumption | with_reducible exact Below.refl _ _ | with_reducible refine Below.drew ?_ | with_reducible refine below_drewN ?_ _ | with_reducible refine bw_alloc ?_ _ | (with_reducible refine bw_set ?_ ?_ _; focus (dsimp only; omega)) | (with_reducible apply bw_behind; with_reducible assumption)))))); rintro e w3 ⟨rfl, hb3⟩; have hr3 := below_reads hb3; have hh3 := below_holds hb3; obtain ⟨m3, hs3⟩ := below_grew hb3))
        refine wp_abs (fun W => Below wr.heap.size wr W ∧ (W.cell? ⟨wr.heap.size + m2, 0, none⟩ = some (.int .i64 ((j : Int) + 1)) ∧ W.cell? ⟨wr.heap.size + m2, 1, none⟩ = some (.int .i64 (C : Int)) ∧ W.cell? ⟨wr.heap.size + m2, 2, none⟩ = some (.slice none 0 0) ∧ W.cell? ⟨wr.heap.size + m2, 3, none⟩ = some (.bool false)) ∧ Own W (wr.heap.size + m2) 4 ∧ Typ W (wr.heap.size + m2) 66) ?_ ?_
        · refine ⟨?_, ⟨?_, ?_, ?_, ?_⟩, ?_, ?_⟩
          · repeat (first | with_reducible assumption | with_reducible exact Below.refl _ _ | with_reducible refine Below.drew ?_ | with_reducible refine below_drewN ?_ _ | with_reducible refine bw_alloc ?_ _ | (with_reducible refine bw_set ?_ ?_ _; focus (dsimp only; omega)) | (with_reducible apply bw_behind; with_reducible assumption))
          · simp (maxDischargeDepth := 4) [go_sem, *]
          · simp (maxDischargeDepth := 4) [go_sem, *]
          · simp (maxDischargeDepth := 4) [go_sem, *]
          · simp (maxDischargeDepth := 4) [go_sem, *]
          · exact o_be hb3 (o_new (by simp [*]) (by simp))
          · exact typ_be hb3 (typ_new (by simp [*]))
        rintro w5 ⟨hb5, ⟨l0, l1, l2, l3⟩, ol, tl⟩
        have hlb : wr.heap.size ≤ wr.heap.size + m2 := by omega
        clear hb3 hr3 hh3 hs3 hb2 hr2 hh2 hs2 CT1 CM htx
        generalize wr.heap.size + m2 = lb at *
        have hB5 := bw_behind hb5 hB
        have hwl : w.heap.size ≤ lb := by have := hB.size; omega
        have hwP : w.heap.size ≤ P := by omega
        have d0 := c_be hb5 c0
        have d1 := c_be hb5 c1
        have d2 := c_be hb5 c2
        have oP5 := o_be hb5 oP
        have tP5 := typ_be hb5 tP
        have o05 := o_be hb5 o0
        have t05 := typ_be hb5 t0
        have hm5 := ms_be hb5 hm
        have ho5 := hide (owns_be hb5 hown.out)
        have hnl5 := own_new_ne hown.out hlb
        have hkp5 := hide (hkp.out.keep (sk_be hb5))
        have hT5 := hT.keep (sk_be hb5)
        have llb := tl.lt
        have nlP : P ≠ lb := by omega
        have nl0 : w.heap.size ≠ lb := by omega
        have nlm : mb ≠ lb := by omega
        clear hb5 hB c0 c1 c2 oP tP o0 t0 hm hown hkp hT
        clear fP0 fP2 lP lP0 lmb kP kP0
        have lb5 : ltB lb w5.heap.size = true := by unfold ltB; simpa using llb
        have f2l := ol.free 2 (by omega)
        go_upto_region 12 with (first | (go_at_call 60; (with_reducible refine (CI.out _ ?_).mono ?_); (focus (refine hG.behind ?_; repeat (first | with_reducible assumption | with_reducible exact Below.refl _ _ | with_reducible refine Below.drew ?_ | with_reducible refine below_drewN ?_ _ | with_reducible refine bw_alloc ?_ _ | (with_reducible refine bw_set ?_ ?_ _; focus (dsimp only; omega)) | (with_reducible apply bw_behind; with_reducible assumption)))); rintro e w6 ⟨N, hN0, hN1, rfl, hb6, hN2, hN3⟩; have hr6 := below_reads hb6; have hh6 := below_holds hb6; obtain ⟨m6, hs6⟩ := below_grew hb6))
        refine wp_abs (fun W => Below w.heap.size w W ∧ StrsT W T (L.map (·.raw)) ∧ Hid (KpRel W K xs) ∧ Hid (W.ownsRow w.heap.size 66 4 (.slice va vl vc) K.length xs) ∧ (W.cell? ⟨P, 0, none⟩ = some (.slice va vl vc) ∧ W.cell? ⟨P, 1, none⟩ = some (.map (some mb)) ∧ W.cell? ⟨P, 2, none⟩ = some (.int .i64 (C : Int))) ∧ (Own W P 3 ∧ Typ W P 63 ∧ Own W w.heap.size 3 ∧ Typ W w.heap.size 63) ∧ (MapS W mb m H ∧ StrBlk W N NMT) ∧
            (W.cell? ⟨lb, 0, none⟩ = some (.int .i64 ((j : Int) + 1)) ∧ W.cell? ⟨lb, 1, none⟩ = some (.int .i64 (C : Int)) ∧ W.cell? ⟨lb, 2, none⟩ = some (.slice (some ⟨N, 0, none⟩) 1 1) ∧ W.cell? ⟨lb, 3, none⟩ = some (.bool false)) ∧ Typ W lb 66 ∧ (Value.slice va vl vc).ownBlock ≠ some lb) ?_ ?_
        · have tl6 := typ_be hb6 tl
          have sk6 : SK w6 (w6.setCell ⟨lb, 2, none⟩ (.slice (some ⟨N, 0, none⟩) 1 1)) := sk_set tl6 (by decide)
          have sk5 := sk_trans (sk_be hb6) sk6
          have hsb : StrBlk w6 N NMT := by
            obtain ⟨c, f, hc⟩ := hN3
            refine ⟨c, f, hc, ?_⟩
            unfold World.cell? at hN2
            rw [hc] at hN2
            simpa using hN2
          refine ⟨?_, hT5.keep sk5, hide (hkp5.out.keep sk5), hide (owns_set hnl5 (owns_be hb6 ho5.out)), ⟨?_, ?_, ?_⟩, ⟨?_, ?_, ?_, ?_⟩, ⟨?_, hsb.keep sk6⟩, ⟨?_, ?_, ?_, ?_⟩, ?_, hnl5⟩
          · repeat (first | with_reducible assumption | with_reducible exact Below.refl _ _ | with_reducible refine Below.drew ?_ | with_reducible refine below_drewN ?_ _ | with_reducible refine bw_alloc ?_ _ | (with_reducible refine bw_set ?_ ?_ _; focus (dsimp only; omega)) | (with_reducible apply bw_behind; with_reducible assumption))
          · repeat (first | with_reducible assumption | with_reducible refine c_dr _ ?_ | with_reducible refine c_d1 ?_ | with_reducible refine c_hit2 ?_ | (with_reducible refine c_off ?_ ?_; focus (decide)) | (with_reducible refine c_set ?_ ?_; focus (dsimp only; omega)) | with_reducible refine c_al _ ?_ | (with_reducible apply c_be; with_reducible assumption) | (with_reducible apply ob_cell; with_reducible assumption; focus (dsimp only; omega)))
          · repeat (first | with_reducible assumption | with_reducible refine c_dr _ ?_ | with_reducible refine c_d1 ?_ | with_reducible refine c_hit2 ?_ | (with_reducible refine c_off ?_ ?_; focus (decide)) | (with_reducible refine c_set ?_ ?_; focus (dsimp only; omega)) | with_reducible refine c_al _ ?_ | (with_reducible apply c_be; with_reducible assumption) | (with_reducible apply ob_cell; with_reducible assumption; focus (dsimp only; omega)))
          · repeat (first | with_reducible assumption | with_reducible refine c_dr _ ?_ | with_reducible refine c_d1 ?_ | with_reducible refine c_hit2 ?_ | (with_reducible refine c_off ?_ ?_; focus (decide)) | (with_reducible refine c_set ?_ ?_; focus (dsimp only; omega)) | with_reducible refine c_al _ ?_ | (with_reducible apply c_be; with_reducible assumption) | (with_reducible apply ob_cell; with_reducible assumption; focus (dsimp only; omega)))
          · exact o_set (o_be hb6 oP5)
          · exact typ_set (typ_be hb6 tP5)
          · exact o_set (o_be hb6 o05)
          · exact typ_set (typ_be hb6 t05)
          · exact ms_set (by dsimp only; omega) (ms_be hb6 hm5)
          · repeat (first | with_reducible assumption | with_reducible refine c_dr _ ?_ | with_reducible refine c_d1 ?_ | with_reducible refine c_hit2 ?_ | (with_reducible refine c_off ?_ ?_; focus (decide)) | (with_reducible refine c_set ?_ ?_; focus (dsimp only; omega)) | with_reducible refine c_al _ ?_ | (with_reducible apply c_be; with_reducible assumption) | (with_reducible apply ob_cell; with_reducible assumption; focus (dsimp only; omega)))
          · repeat (first | with_reducible assumption | with_reducible refine c_dr _ ?_ | with_reducible refine c_d1 ?_ | with_reducible refine c_hit2 ?_ | (with_reducible refine c_off ?_ ?_; focus (decide)) | (with_reducible refine c_set ?_ ?_; focus (dsimp only; omega)) | with_reducible refine c_al _ ?_ | (with_reducible apply c_be; with_reducible assumption) | (with_reducible apply ob_cell; with_reducible assumption; focus (dsimp only; omega)))
          · exact c_own (o_be hb6 ol) (by omega)
          · repeat (first | with_reducible assumption | with_reducible refine c_dr _ ?_ | with_reducible refine c_d1 ?_ | with_reducible refine c_hit2 ?_ | (with_reducible refine c_off ?_ ?_; focus (decide)) | (with_reducible refine c_set ?_ ?_; focus (dsimp only; omega)) | with_reducible refine c_al _ ?_ | (with_reducible apply c_be; with_reducible assumption) | (with_reducible apply ob_cell; with_reducible assumption; focus (dsimp only; omega)))
          · exact typ_set tl6
        -- w7: the line is whole
        rintro w7 ⟨hB7, hT7, hkp7, ho7, ⟨e0, e1, e2⟩, ⟨oP7, tP7, o07, t07⟩, ⟨hm7, hm7b⟩, ⟨k0, k1, k2, k3⟩, tl7, hnl7⟩
        have hsz7 := hB7.size
        have lP7 := tP7.lt
        have l07 := t07.lt
        have ll7 := tl7.lt
        go_wp2_with (first | (at_builtin; refine wpList_append_own _ rfl _ _ 60 rfl w.heap.size 66 iL (.agg #[.int .i64 0, .int .i64 0, .slice none 0 0, .bool false]) 4 48 Tryz.underlying60 hi hz0 hz1 hz2 rfl (by decide) _ _ _ rfl (owns_al _ ho7.out) _ 1 1 [.int .i64 ((j : Int) + 1), .int .i64 (C : Int), .slice (some ⟨N, 0, none⟩) 1 1, .bool false] rfl rfl (cells_new _ _ _ rfl) (fun x hx => by simp at hx; rcases hx with rfl | rfl | rfl | rfl <;> rfl) (by unfold maxLen; omega) (by omega) (by simp; omega) ?_; intro v' w8 hown' hgrow hnil'; obtain ⟨va', vl', vc', rfl⟩ := owns_slice hown'; obtain ⟨g, hob, hg1, hg2, hg3, hsk⟩ := grow_facts (owns_al _ ho7.out) (by decide) hgrow; have nP := hg1 P _ (typ_al _ tP7) (by decide); have n0 := hg1 _ _ (typ_al _ t07) (by decide); have nm := hg2 _ _ _ (ms_al _ hm7); have nl := hg3 lb (by simp; omega) hnl7; have y0 := ob_cell hob nP (c_al _ e0); have y1 := ob_cell hob nP (c_al _ e1); have y2 := ob_cell hob nP (c_al _ e2); have yl := ob_cell hob nl (c_al _ k2); have oP8 := ob_own hob nP (o_al _ oP7); have o08 := ob_own hob n0 (o_al _ o07); have tP8 := typ_ob hob nP (typ_al _ tP7); have t08 := typ_ob hob n0 (typ_al _ t07); have hm8 := ms_ob hob nm (ms_al _ hm7); have f0 := oP8.free 0 (by omega); have f2 := oP8.free 2 (by omega); have hB8 := (bw_alloc hB7 _).grown hgrow (by simp; omega) (row_base ho7.out); have hsk8 := sk_trans (sk_al _ _) hsk))
        go_roundw
        case rel =>
          refine ⟨j + 1, m, .slice va' vl' vc', xs ++ [.int .i64 ((j : Int) + 1), .int .i64 (C : Int), .slice (some ⟨N, 0, none⟩) 1 1, .bool false], by omega, by go_num, by omega, ?_⟩
          rw [EQ.out.1, EQ.out.2.1, EQ.out.2.2]
          have hne' := owns_ne hown' tP8 (by decide)
          refine ⟨?_, hide ?_, hide ?_, ⟨?_, ?_, ?_⟩, ⟨?_, ?_, ?_, ?_⟩, ?_, ?_⟩
          · repeat (first | with_reducible assumption | with_reducible exact Below.refl _ _ | with_reducible refine Below.drew ?_ | with_reducible refine below_drewN ?_ _ | with_reducible refine bw_alloc ?_ _ | (with_reducible refine bw_set ?_ ?_ _; focus (dsimp only; omega)) | (with_reducible apply bw_behind; with_reducible assumption))
          · exact (KpRel.snoc (k := ⟨j + 1, C, some NMT⟩) (show TxtV _ _ (some NMT) from ⟨N, rfl, hm7b.keep hsk8⟩) (hkp7.out.keep hsk8)).keep (sk_trans (sk_set tP8 (by decide)) (sk_set (typ_set tP8) (by decide)))
          · rw [List.length_append]
            exact owns_set hne' (owns_set hne' hown')
          · exact c_off (by decide) (c_own oP8 (by omega))
          · repeat (first | with_reducible assumption | with_reducible refine c_dr _ ?_ | with_reducible refine c_d1 ?_ | with_reducible refine c_hit2 ?_ | (with_reducible refine c_off ?_ ?_; focus (decide)) | (with_reducible refine c_set ?_ ?_; focus (dsimp only; omega)) | with_reducible refine c_al _ ?_ | (with_reducible apply c_be; with_reducible assumption) | (with_reducible apply ob_cell; with_reducible assumption; focus (dsimp only; omega)))
          · exact c_own (o_set oP8) (by omega)
          · exact o_set (o_set oP8)
          · exact typ_set (typ_set tP8)
          · exact o_set (o_set o08)
          · exact typ_set (typ_set t08)
          · exact ms_set (by dsimp only; omega) (ms_set (by dsimp only; omega) hm8)
          · exact (hT7.keep hsk8).keep (sk_trans (sk_set tP8 (by decide)) (sk_set (typ_set tP8) (by decide)))
        case measure => simp [intOf]; omega
    · obtain rfl : j = L.length := by omega
      rw [List.take_length] at hkp hown c2 hm
      have hsz := hB.size
      obtain ⟨u0, p0⟩ := o0.val 0 (by omega)
      obtain ⟨u1, p1⟩ := o0.val 1 (by omega)
      obtain ⟨u2, p2⟩ := o0.val 2 (by omega)
      have g0 := o0.free 0 (by omega)
      have g1 := o0.free 1 (by omega)
      have g2 := o0.free 2 (by omega)
      have hne := owns_ne hown.out t0 (by decide)
      go_wp2
      refine bodyPost_ret (v := .agg #[.slice va vl vc, .map (some mb), .int .i64 (cntL L : Int)]) (by simp (maxDischargeDepth := 4) [results, Tryz.results24, go_sem, *]) rfl ?_
      refine ⟨.slice va vl vc, xs, mb, m, rfl, ?_, hkp.out.keep (sk_trans (sk_set t0 (by decide)) (sk_trans (sk_set (typ_set t0) (by decide)) (sk_set (typ_set (typ_set t0)) (by decide)))), ?_, ?_, by omega⟩
      · repeat (first | with_reducible assumption | with_reducible exact Below.refl _ _ | with_reducible refine Below.drew ?_ | with_reducible refine below_drewN ?_ _ | with_reducible refine bw_alloc ?_ _ | (with_reducible refine bw_set ?_ ?_ _; focus (dsimp only; omega)) | (with_reducible apply bw_behind; with_reducible assumption))
      · exact owns_set hne (owns_set hne (owns_set hne hown.out))
      · exact ms_set (by dsimp only; omega) (ms_set (by dsimp only; omega) (ms_set (by dsimp only; omega) hm))
end Go.Proofs.YtlommbeokbicjaaGreatDoor
