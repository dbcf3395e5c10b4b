/-
  slices.Delete of one reservation.
-/
import Derived.Test.YtnepnckiciapfaaDoorRgnLib2
import Derived.Test.YtnepnckiciapfaaDoorRgnClone
import Derived.Test.YtnepnckiciapfaaDoorTail2
import Derived.Deep.DeepCutAuto
namespace Go.Proofs.YtnepnckiciapfaaDoor
open Go.RowKit RgnMath

set_option maxHeartbeats 4000000 in
set_option maxRecDepth 100000 in
theorem del_row (base g i c : Nat) (cur : Array Value) (L : List Rg) (w : World) (hbase : base ≤ g) (hi : i < L.length) (hn : L.length ≤ 1000) (hnc : L.length ≤ c) (hcm : c ≤ 9223372036854775807)
    (hg : w.heap[g]? = some (.cells cur 41 (0, 0))) (hcur : cur.size = c * 3) (hrow : Row w g (cellsL L)) :
    Calls Tryd.prog 23 #[.slice (some ⟨g, 0, none⟩) L.length c, .int .i64 (i : Int), .int .i64 ((i : Int) + 1)] w fun e w' => ∃ v', e = .returned v' ∧ LstB base w' v' (dropF L i) ∧ Below base w w' := by
  have hu : Tryd.prog.underlying 26 = some (.slice 41) := Tryd.underlying26
  obtain ⟨i0, hi0, _, hz1, _⟩ := info_ex
  have hown : Own w g (c * 3) := own_of_heap hg (by omega)
  have hcl := cells_len L
  obtain ⟨n, hN⟩ : ∃ n, n = L.length := ⟨_, rfl⟩
  obtain ⟨cs, hcs⟩ : ∃ cs, cs = cellsL L := ⟨_, rfl⟩
  have NN := hide hN
  have HC := hide hcs
  rw [← hN, ← hcs] at hcl
  rw [← hN] at hn hi hnc ⊢
  rw [← hcs] at hrow
  have h1c : ∀ u ∈ cs, u.oneCell' = true := by rw [hcs]; exact cells_one L
  clear hN hcs
  obtain ⟨news, hnews⟩ : ∃ news, news = cs.drop ((i + 1) * 3) := ⟨_, rfl⟩
  have hlen : news.length = (n - (i + 1)) * 3 := by rw [hnews, List.length_drop, hcl, Nat.sub_mul]
  have hget : ∀ t u, news[t]? = some u → cs[(i + 1) * 3 + t]? = some u := fun t u hu => by rwa [hnews, List.getElem?_drop] at hu
  obtain ⟨A, hA, hsrc⟩ : ∃ A : Addr, (if c = i + 1 then (some ⟨g, 0, none⟩ : Option Addr) else some ⟨g, (i + 1) * 3, none⟩) = some A ∧ Hid (∀ t u, news[t]? = some u → w.drew.cell? (A.add t) = some u) := by
    by_cases h : c = i + 1
    · refine ⟨⟨g, 0, none⟩, by simp [h], fun t u hu => ?_⟩
      have h0 : news.length = 0 := by rw [hlen]; omega
      rw [List.length_eq_zero_iff.1 h0] at hu
      simp at hu
    · refine ⟨⟨g, (i + 1) * 3, none⟩, by simp [h], fun t u hu => ?_⟩
      rw [Addr.add_lit]
      exact hrow _ u (hget t u hu)
  have s1 : Hid (news.length = (n - (i + 1)) * 3) := hlen
  have s2 : Hid (∀ u ∈ news, u.oneCell' = true) := by
    intro u hu
    rw [hnews] at hu
    exact h1c u (List.mem_of_mem_drop hu)
  have s3 : Hid (∀ t, t < news.length → (w.drew.cell? ⟨g, 0 + i * 3 + t, none⟩).isSome = true ∧ w.drew.frozen? ⟨g, 0 + i * 3 + t, none⟩ = false) := by
    intro t ht
    rw [hlen] at ht
    exact hown (0 + i * 3 + t) (by omega)
  obtain ⟨W1, hW1⟩ : ∃ W1, W1 = w.drew.setCells g (0 + i * 3) news := ⟨_, rfl⟩
  have ho1 : Own W1 g (c * 3) := by rw [hW1]; exact own_sets _ _ _ (o_d1 hown)
  have hn0 : n - (i + (n - (i + 1))) = 1 := by omega
  obtain ⟨zs, hzs⟩ : ∃ zs : List Value, zs = [.int .u64 0, .int .u64 0, .int .i64 0] := ⟨_, rfl⟩
  have hzl : zs.length = 3 := by rw [hzs]; rfl
  have hcz : ∀ ty, (Builtin.clear_ #[26] ty #[.slice (some ⟨g, (i + (n - (i + 1))) * 3, none⟩) (n - (i + (n - (i + 1)))) (c - (i + (n - (i + 1))))]).run Tryd.prog W1 = .ok (.tuple #[]) (W1.setCells g ((i + (n - (i + 1))) * 3) zs) :=
    fun ty => run_clearK W1 _ _ ty _ hu Tryd.zeroValue41 g _ _ _ (by omega) zs (by rw [hn0, hzs]; simp [Builtin.zeroCells, Value.cells, List.range_succ]) (by rw [hzs]; intro v hv; simp at hv; rcases hv with rfl | rfl | rfl <;> rfl)
      (fun j hj => (ho1 _ (by omega)).1) (fun j hj => (ho1 _ (by omega)).2)
  have HW := hide hW1
  have O1 := hide ho1
  have RW := hide hrow
  have HG := hide hget
  have OW := hide hown
  have HZ := hide hzl
  have HNW := hide hnews
  have HLN := hide hlen
  have hic : i ≤ c := by omega
  have hjc : i + 1 ≤ c := by omega
  have htn : ((i : Int) + 1).toNat = i + 1 := by omega
  have hb1 : (0 : Int) ≤ (i : Int) + 1 := by omega
  have hne : ¬ ((i : Int) = (i : Int) + 1) := by omega
  have hle : (i : Int) + 1 ≤ (n : Int) := by omega
  have hle2 : (i : Int) ≤ (i : Int) + 1 := by omega
  have hnc2 : (n : Int) ≤ (c : Int) := by omega
  clear hW1 ho1 hrow hget hnews hlen hown hn0 hzs hzl h1c
  go_enter Tryd.func23, Tryd.ntmps23
  go_wp2_with fail
  go_region_law (refine step_append_room rfl (.tmp 22) (.tmp 25) 26 rfl 41 i0 3 hu hi0 hz1 g 0 i c (by simp [Act.eval, Act.put]) A (n - (i + 1)) (c - (i + 1)) news (by simp [Act.eval, Act.put]) s1.out hsrc.out s2.out (by omega) s3.out ?_; rw [← HW.out])
  go_wp2_with (at_builtin; refine wpList_built1 rfl _ 26 rfl _ rfl (hcz _) ?_)
  go_ret
  refine ⟨.slice (some ⟨g, 0, none⟩) (i + (n - (i + 1))) c, rfl, ?_, ?_⟩
  · have e : cellsL (dropF L i) = cs.take (i * 3) ++ news := by
      unfold dropF
      rw [cells_app, cells_take, cells_drop, HC.out, HNW.out, HC.out]
    have el : (dropF L i).length = i + (n - (i + 1)) := by
      rw [drop_len (by rw [← NN.out]; exact hi), ← NN.out]
      omega
    have htl : (cs.take (i * 3)).length = 0 + i * 3 := by rw [List.length_take, hcl]; omega
    have r0 : Row w.drew g (cs.take (i * 3)) := fun j v hj => by
      rw [List.getElem?_take] at hj
      split at hj
      · exact RW.out j v hj
      · cases hj
    have r1 := row_app (vs := news) htl (own_le (o_d1 OW.out) (by rw [HLN.out]; omega)) r0
    rw [← HW.out] at r1
    have o1 := own_sets zs ((i + (n - (i + 1))) * 3) W1 O1.out
    refine ⟨.inr ⟨g, c, by rw [el], by omega, hcm, ?_, ?_⟩, fun k hk => by injection hk with hk; subst hk; exact hbase⟩
    · obtain ⟨x, hx⟩ := o1.val 0 (by omega)
      exact World.block_lt_of_cell? _ _ hx
    · rw [e]
      refine row_sets (own_le O1.out (by rw [HZ.out]; omega)) (fun j v hj => ?_)
      have hj0 := (List.getElem?_eq_some_iff.1 hj).1
      rw [List.length_append, htl, HLN.out] at hj0
      rw [if_neg (by omega)]
      exact r1 j v hj
  · rw [HW.out]
    exact bel_sets hbase _ _ _ (bel_sets hbase _ _ _ (Below.refl _ _).drew)

theorem del_any (base i : Nat) (v : Value) (L : List Rg) (w : World) (hi : i < L.length) (hn : L.length ≤ 1000) (hown : w.ownsRow base 41 3 v L.length (cellsL L)) :
    Calls Tryd.prog 23 #[v, .int .i64 (i : Int), .int .i64 ((i : Int) + 1)] w fun e w' => ∃ v', e = .returned v' ∧ LstB base w' v' (dropF L i) ∧ Below base w w' := by
  have ho := hown
  rcases hown.2 with ⟨_, h2⟩ | ⟨g, cap, cur, rfl, h3, h4, h5, h6, h7, h8⟩
  · omega
  · have hrow : Row w g (cellsL L) := fun j u hj => by
      have := ho.cells (g := g) rfl j u hj
      rwa [add_at] at this
    exact del_row base g i cap cur L w h3 hi hn h5 (by unfold maxLen at h6; omega) h4 h7 hrow
end Go.Proofs.YtnepnckiciapfaaDoor
