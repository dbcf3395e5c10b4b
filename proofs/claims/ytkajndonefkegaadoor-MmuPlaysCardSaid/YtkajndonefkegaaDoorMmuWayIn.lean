/-
  MmuPlays: what stands at the switch of a round, what is behind it.
-/
import Derived.Test.YtkajndonefkegaaDoorMmuRefDa
import Derived.Test.YtkajndonefkegaaDoorGArg
import Derived.Test.YtkajndonefkegaaDoorGOne
import Derived.Deep.CutBlock
import Derived.Deep.DeepCutAuto
import Derived.BigQuiet
set_option maxRecDepth 100000
set_option maxHeartbeats 64000000
namespace Go.Proofs.YtkajndonefkegaaDoor.MmuPlays
open Go.RowKit Words FieldMath PteMath

theorem struct_act : Tryd.prog.underlying 50 = some (.struct ((match Tryd.prog.underlying 50 with | some (.struct fs) => fs | _ => #[]))) := by kernel_rfl
theorem infoAct : Option.map (fun x => x.size) (Tryd.prog.info? 50) = some 18 := by kernel_rfl
def Blk (KB N mb xb g : Nat) : Prop := g ≠ KB /\ g ≠ N /\ g ≠ mb /\ g ≠ xb
theorem blk_K {KB N mb xb : Nat} : ∀ g, Blk KB N mb xb g -> g ≠ KB := fun _ h => h.1
theorem blk_N {KB N mb xb : Nat} : ∀ g, Blk KB N mb xb g -> g ≠ N := fun _ h => h.2.1
theorem blk_m {KB N mb xb : Nat} : ∀ g, Blk KB N mb xb g -> g ≠ mb := fun _ h => h.2.2.1
theorem blk_x {KB N mb xb : Nat} : ∀ g, Blk KB N mb xb g -> g ≠ xb := fun _ h => h.2.2.2
theorem le_be {n x : Nat} {a c : World} (h4 : n < x + 2) (h1 : x < a.heap.size) (h : Below a.heap.size a c) : n ≤ c.heap.size := by have := h.size; omega
theorem via_be {p : Prop} {a W : World} (h : Below a.heap.size a W) (f : Below a.heap.size a W -> p) : p := f h
theorem c_off {W : World} {p a : Addr} {u v : Value} (hne : p.off ≠ a.off) (h : W.cell? a = some v) : (W.setCell p u).cell? a = some v := (World.cell?_setCell_other _ _ _ _ (fun e => hne (congrArg Addr.off e))).trans h
theorem own_some {W : World} {b n k : Nat} (h : Own W b n) (hk : k < n) : (W.cell? ⟨b, k, none⟩).isSome = true := (h k hk).1
theorem lt_be {n : Nat} {a c : World} (h1 : n < a.heap.size) (h : Below a.heap.size a c) : n < c.heap.size := Nat.lt_of_lt_of_le h1 h.size
section
variable {W W' : World} {b : Nat} {B : Nat -> Prop} {s1 : Option Addr} {n1 q1 : Nat} {s2 : Option Addr} {n2 q2 : Nat} {sa : Option Addr} {na ca : Nat} {sb : Option Addr} {nb cb : Nat} {ls : List LayD} {K : Nat -> List (LnX Int)} {E : List Fd}
theorem da_be (hb : Below W.heap.size W W') (h : DocAt W b B s1 n1 q1 s2 n2 q2 sa na ca sb nb cb ls K E) : DocAt W' b B s1 n1 q1 s2 n2 q2 sa na ca sb nb cb ls K E := ⟨rb_be hb h.lines, ez_rb_be hb h.ents, mr_be hb h.mem⟩
theorem da_al (ob : Obj) (h : DocAt W b B s1 n1 q1 s2 n2 q2 sa na ca sb nb cb ls K E) : DocAt (W.alloc ob) b B s1 n1 q1 s2 n2 q2 sa na ca sb nb cb ls K E := da_be (below_alloc (Below.refl _ _) (Nat.le_refl _) ob) h
theorem da_dr (k : Nat) (h : DocAt W b B s1 n1 q1 s2 n2 q2 sa na ca sb nb cb ls K E) : DocAt (W.drewN k) b B s1 n1 q1 s2 n2 q2 sa na ca sb nb cb ls K E := ⟨rb_dr k h.lines, ez_rb_dr k h.ents, mr_dr k h.mem⟩
theorem da_d1 (h : DocAt W b B s1 n1 q1 s2 n2 q2 sa na ca sb nb cb ls K E) : DocAt W.drew b B s1 n1 q1 s2 n2 q2 sa na ca sb nb cb ls K E := ⟨rb_d1 h.lines, ez_rb_d1 h.ents, mr_d1 h.mem⟩
theorem da_set {p : Addr} {u : Value} (h1 : p.block < b) (h2 : ∀ g, B g -> g ≠ p.block) (h : DocAt W b B s1 n1 q1 s2 n2 q2 sa na ca sb nb cb ls K E) : DocAt (W.setCell p u) b B s1 n1 q1 s2 n2 q2 sa na ca sb nb cb ls K E := ⟨rb_set h1 h.lines, ez_rb_set h1 h.ents, mr_set h2 h.mem⟩
theorem da_lines {K' : Nat -> List (LnX Int)} {s' : Option Addr} {n' q' : Nat} (h : DocAt W b B s1 n1 q1 s2 n2 q2 sa na ca sb nb cb ls K E) (hl : RefB W b (.slice s' n' q') (upF K' 4)) : DocAt W b B s' n' q' s2 n2 q2 sa na ca sb nb cb ls K' E := ⟨hl, h.ents, h.mem⟩
theorem da_mem {ls' : List LayD} {sa' : Option Addr} {na' ca' : Nat} {sb' : Option Addr} {nb' cb' : Nat} (h : DocAt W b B s1 n1 q1 s2 n2 q2 sa na ca sb nb cb ls K E) (hm : MemR W B sa' na' ca' sb' nb' cb' (laidR ls')) : DocAt W b B s1 n1 q1 s2 n2 q2 sa' na' ca' sb' nb' cb' ls' K E := ⟨h.lines, h.ents, hm⟩
theorem owns_blk {base n size : Nat} {e : TypeId} {v : Value} {xs : List Value} (hb : ∀ g, base ≤ g -> g < W.heap.size -> W'.heap[g]? = W.heap[g]?) (h : W.ownsRow base e size v n xs) : W'.ownsRow base e size v n xs := by
  refine ⟨h.1, ?_⟩
  rcases h.2 with h2 | ⟨g, cap, cur, rfl, h3, h4, h5⟩
  · exact .inl h2
  · exact .inr ⟨g, cap, cur, rfl, h3, (hb g h3 (Array.getElem?_eq_some_iff.1 h4).1).trans h4, h5⟩
theorem sl_blk {s : Option Addr} {n c : Nat} {l : List Value} (hb : ∀ g, s = some ⟨g, 0, none⟩ -> g < W.heap.size -> W'.heap[g]? = W.heap[g]?) (h : Sl W s n c l) : Sl W' s n c l := by
  refine ⟨h.1, ?_⟩
  rcases h.2 with h2 | ⟨g, rfl, h3, h4, h5⟩
  · exact .inl h2
  · refine .inr ⟨g, rfl, h3, fun i v hv => ?_, h5⟩
    have hc := h4 i v hv
    exact (World.cell?_of_block (w := W) (hb g rfl (World.block_lt_of_cell? W _ hc))).trans hc
theorem da_blk (hb : ∀ g, g < W.heap.size -> (b ≤ g ∨ B g) -> W'.heap[g]? = W.heap[g]?) (h : DocAt W b B s1 n1 q1 s2 n2 q2 sa na ca sb nb cb ls K E) : DocAt W' b B s1 n1 q1 s2 n2 q2 sa na ca sb nb cb ls K E :=
  ⟨owns_blk (fun g h1 h2 => hb g h2 (.inl h1)) h.lines, owns_blk (fun g h1 h2 => hb g h2 (.inl h1)) h.ents, sl_blk (fun g h1 h2 => hb g h2 (.inr (h.mem.2.2.1 g h1))) h.mem.1, sl_blk (fun g h1 h2 => hb g h2 (.inr (h.mem.2.2.2 g h1))) h.mem.2.1, h.mem.2.2.1, h.mem.2.2.2⟩
theorem da_out2 {N K' : Nat} (ho : Out2 N K' W W') (h1 : N < b) (h2 : K' < b) (h3 : ∀ g, B g -> g ≠ N) (h4 : ∀ g, B g -> g ≠ K') (h : DocAt W b B s1 n1 q1 s2 n2 q2 sa na ca sb nb cb ls K E) : DocAt W' b B s1 n1 q1 s2 n2 q2 sa na ca sb nb cb ls K E :=
  da_blk (fun g hg hq => ho.block g hg (by rcases hq with hq | hq; omega; exact h3 g hq) (by rcases hq with hq | hq; omega; exact h4 g hq)) h
theorem da_out1 {N : Nat} (ho : Out1 N W W') (h1 : N < b) (h3 : ∀ g, B g -> g ≠ N) (h : DocAt W b B s1 n1 q1 s2 n2 q2 sa na ca sb nb cb ls K E) : DocAt W' b B s1 n1 q1 s2 n2 q2 sa na ca sb nb cb ls K E :=
  da_blk (fun g hg hq => ho.block g hg (by rcases hq with hq | hq; omega; exact h3 g hq)) h
theorem da_out {K' o : Nat} (ho : Out K' o W W') (h1 : K' < b) (h3 : ∀ g, B g -> g ≠ K') (h : DocAt W b B s1 n1 q1 s2 n2 q2 sa na ca sb nb cb ls K E) : DocAt W' b B s1 n1 q1 s2 n2 q2 sa na ca sb nb cb ls K E :=
  da_blk (fun g hg hq => ho.block g hg (by rcases hq with hq | hq; omega; exact h3 g hq)) h
theorem rb_len {L : List (LnX Int)} {s : Option Addr} {n q : Nat} (h : RefB W b (.slice s n q) L) : n = L.length := by
  rcases (rb_t h).form with ⟨h1, rfl⟩ | ⟨g, cap, h1, _⟩
  · injection h1
  · injection h1
end
theorem via_x {p : Prop} {a W : World} {N K : Nat} (h : Out2 N K a W) (f : Out2 N K a W -> p) : p := f h
theorem x2_set {N K : Nat} {a c : World} {p : Addr} (u : Value) (hp : p.block = N ∨ p.block = K) (h : Out2 N K a c) : Out2 N K a (c.setCell p u) :=
  h.trans ⟨rfl, rfl, rfl, by rw [s_set]; exact Nat.le_refl _, fun k hk h1 h2 => Below.heap_setCell _ _ _ _ (by rcases hp with e | e <;> omega)⟩
theorem un_x2 {X Y N : Nat} {M : Nat -> List Ln} {P A : Int} {G : Bool} {W W' : World} (ho : Out2 X Y W W') (h1 : N ≠ X) (h2 : N ≠ Y) (h : UnitAt N M P A G W) : UnitAt N M P A G W' := by
  have hb := ho.block N h.here h1 h2
  have hc : ∀ j, W'.cell? ⟨N, j, none⟩ = W.cell? ⟨N, j, none⟩ := fun j => World.cell?_of_block hb
  have hf : ∀ j, W'.frozen? ⟨N, j, none⟩ = W.frozen? ⟨N, j, none⟩ := fun j => World.frozen?_of_block hb
  obtain ⟨⟨R, h1, h2⟩, h3, h4, h5, h6⟩ := h
  exact ⟨⟨R, ⟨fun k hk j v hv => (hc _).trans (h1.line k hk j v hv), fun q hq => (hc _).trans (h1.fill q hq), fun j hj => ⟨by rw [hc]; exact (h1.there j hj).1, by rw [hf]; exact (h1.there j hj).2⟩⟩, h2⟩, (hc _).trans h3, (hc _).trans h4, (hc _).trans h5, fun j hj => (hf j).trans (h6 j hj)⟩
theorem mw_x2 {X Y R K C : Nat} {Mm : Nat -> Nat -> BitVec 64} {W W' : World} (ho : Out2 X Y W W') (h1 : K ≠ X) (h2 : K ≠ Y) (h3 : R ≠ X) (h4 : R ≠ Y) (hC : 0 < C) (h : MemW W R K C Mm) : MemW W' R K C Mm := mw_blk (ho.block K (h.herek hC) h1 h2) (ho.block R h.hereR h3 h4) h
def blAt (n : Nat) : Code -> Option Code
  | .block k c => if k = n then some (.block k c) else blAt n c
  | .seq a b => match blAt n a with
    | some c => some c
    | none => blAt n b
  | .cond _ a b => match blAt n a with
    | some c => some c
    | none => blAt n b
  | .loop c => blAt n c
  | .scope c => blAt n c
  | _ => none
structure Ltr where
  (w w1 : World)
  (R KB mb bq xb N ab k : Nat)
  (ls : List LayD)
  (K : Nat -> List (LnX Int))
  (E : List Fd)
  (A : Int)
  (G : Bool)
  (s1 : Option Addr)
  (n1 q1 : Nat)
  (s2 : Option Addr)
  (n2 q2 : Nat)
  (sa : Option Addr)
  (na ca : Nat)
  (sb : Option Addr)
  (nb cb : Nat)
  (DK DW DN : Int)
  (v : BitVec 64)
  (DT b0 b1 b2 b3 b4 b5 b6 b7 b8 b9 b10 b11 : Bool)
  (Fb : BitVec 64)
  (VN DV DF : Int)
def In : Ltr -> Prop
  | ⟨w, w1, R, KB, mb, bq, xb, N, ab, k, ls, K, E, A, G, s1, n1, q1, s2, n2, q2, sa, na, ca, sb, nb, cb, DK, DW, DN, v, DT, b0, b1, b2, b3, b4, b5, b6, b7, b8, b9, b10, b11, Fb, VN, DV, DF⟩ => (KB < mb /\ R < mb) /\ w.heap.size ≤ mb /\ w.heap.size ≤ R /\ w.heap.size ≤ KB /\ mb < N /\ N < xb /\ xb < bq /\ bq < xb + 2 /\ N ≠ KB /\ N ≠ R /\ k < 60 /\ Hid (Kept ls K E k) /\ Hid (Wf A) /\ DV.tdiv 4096 = VN /\ DV / 4096 = VN /\ IntKind.u64.wrap VN = VN /\ Hid ((v.toNat : Int) = DV) /\ Hid ((Fb.toNat : Int) = DF) /\ MemW w1 R KB 8 (laidM ls) /\ UnitAt N (keptM (gE E) K) 0 A G w1 /\ DocAt w1 bq (Blk KB N mb xb) s1 n1 q1 s2 n2 q2 sa na ca sb nb cb ls K E /\ w1.cell? ⟨xb, 0, none⟩ = some (.slice s1 n1 q1) /\ w1.cell? ⟨xb, 1, none⟩ = some (.slice s2 n2 q2) /\ w1.cell? ⟨xb, 2, none⟩ = some (.int .u64 0) /\ w1.cell? ⟨xb, 3, none⟩ = some (.int .u64 A) /\ w1.cell? ⟨xb, 4, none⟩ = some (.bool G) /\ w1.cell? ⟨mb, 0, none⟩ = some (.int .i64 8) /\ w1.cell? ⟨mb, 1, none⟩ = some (.slice sa na ca) /\ w1.cell? ⟨mb, 2, none⟩ = some (.slice sb nb cb) /\ w1.cell? ⟨mb, 3, none⟩ = some (.slice none 0 0) /\ Own w1 xb 5 /\ Own w1 mb 4 /\ Below w.heap.size w w1 /\ xb < w1.heap.size /\ w1.cell? ⟨ab, 0, none⟩ = some (.int .i64 DK) /\ w1.cell? ⟨ab, 1, none⟩ = some (.int .i64 DW) /\ w1.cell? ⟨ab, 2, none⟩ = some (.int .i64 DN) /\ w1.cell? ⟨ab, 3, none⟩ = some (.int .u64 DV) /\ w1.cell? ⟨ab, 4, none⟩ = some (.bool DT) /\ w1.cell? ⟨ab, 5, none⟩ = some (.bool b0) /\ w1.cell? ⟨ab, 6, none⟩ = some (.bool b1) /\ w1.cell? ⟨ab, 7, none⟩ = some (.bool b2) /\ w1.cell? ⟨ab, 8, none⟩ = some (.bool b3) /\ w1.cell? ⟨ab, 9, none⟩ = some (.bool b4) /\ w1.cell? ⟨ab, 10, none⟩ = some (.bool b5) /\ w1.cell? ⟨ab, 11, none⟩ = some (.bool b6) /\ w1.cell? ⟨ab, 12, none⟩ = some (.bool b7) /\ w1.cell? ⟨ab, 13, none⟩ = some (.bool b8) /\ w1.cell? ⟨ab, 14, none⟩ = some (.bool b9) /\ w1.cell? ⟨ab, 15, none⟩ = some (.bool b10) /\ w1.cell? ⟨ab, 16, none⟩ = some (.bool b11) /\ w1.cell? ⟨ab, 17, none⟩ = some (.int .u64 DF) /\ xb < ab /\ ltB N w1.heap.size = true /\ ltB mb w1.heap.size = true /\ ltB xb w1.heap.size = true /\ ab < w1.heap.size /\ ltB ab w1.heap.size = true /\ Tab w1
abbrev OutW (w : World) (R KB mb bq xb N k : Nat) (W : World) : Prop := ∃ (ls : List LayD) (K : Nat -> List (LnX Int)) (E : List Fd) (A : Int) (G : Bool) (s1 : Option Addr) (n1 q1 : Nat) (s2 : Option Addr) (n2 q2 : Nat) (sa : Option Addr) (na ca : Nat) (sb : Option Addr) (nb cb : Nat), Hid (Kept ls K E (k + 1)) /\ Hid (Wf A) /\ MemW W R KB 8 (laidM ls) /\ UnitAt N (keptM (gE E) K) 0 A G W /\ DocAt W bq (Blk KB N mb xb) s1 n1 q1 s2 n2 q2 sa na ca sb nb cb ls K E /\ W.cell? ⟨xb, 0, none⟩ = some (.slice s1 n1 q1) /\ W.cell? ⟨xb, 1, none⟩ = some (.slice s2 n2 q2) /\ W.cell? ⟨xb, 2, none⟩ = some (.int .u64 0) /\ W.cell? ⟨xb, 3, none⟩ = some (.int .u64 A) /\ W.cell? ⟨xb, 4, none⟩ = some (.bool G) /\ W.cell? ⟨mb, 0, none⟩ = some (.int .i64 8) /\ W.cell? ⟨mb, 1, none⟩ = some (.slice sa na ca) /\ W.cell? ⟨mb, 2, none⟩ = some (.slice sb nb cb) /\ W.cell? ⟨mb, 3, none⟩ = some (.slice none 0 0) /\ Own W xb 5 /\ Own W mb 4 /\ Below w.heap.size w W /\ xb < W.heap.size
def WayGoal : Ltr -> Prop
  | ⟨w, w1, R, KB, mb, bq, xb, N, ab, k, _, _, _, _, _, _, _, _, _, _, _, _, _, _, _, _, _, DK, _, _, _, _, _, _, _, _, _, _, _, _, _, _, _, _, _, _, _, _⟩ => ∀ (y0 y1 y2 y7 y9 y10 y11 y12 y13 y14 y15 y16 y17 y18 y19 y20 y21 y22 y23 y24 y25 y26 y27 y28 y29 y30 y31 y32 y33 y34 y35 y36 y37 y38 y39 y40 y41 y42 y43 y45 y46 y47 y48 y49 y50 y51 y52 y53 y54 y55 y56 y57 y58 y59 y60 y61 y62 y63 y64 y65 y66 y67 y68 y69 y70 y71 y72 y73 y74 y75 y76 y77 y78 y79 y80 y81 y82 y83 y84 y85 y86 y87 y88 y89 y90 y91 y92 y93 y94 y95 y96 y97 y98 y99 y100 y101 y102 y103 y104 y105 y106 y107 y108 y109 y110 y111 y112 y113 y114 y115 y116 y117 y118 y119 y120 y121 y122 y123 y124 y125 y126 y127 y128 y129 y130 y131 y132 y133 y134 y135 y136 y137 y138 y139 y140 y141 y142 y143 y144 y145 y146 y147 y148 y149 y150 y151 y152 y153 y154 y155 y156 y157 y158 y159 y160 y161 y162 y163 y164 y165 y166 y167 y168 y169 y170 y171 y172 y173 y174 y175 y176 y177 y178 y179 y180 y181 y182 y183 y184 y185 y186 y187 y188 y189 y190 y191 y192 y193 y194 y195 y196 y197 y198 y199 y200 y201 y202 y203 y204 y205 y206 y207 y208 y209 y210 y211 y212 y213 y214 y215 y216 y217 y218 y219 y220 y221 y222 y223 y224 y225 y226 y227 y228 y229 y230 y231 y232 y233 y234 y235 y236 y237 y238 y239 y240 y241 : Value) (KK KL KM KN : Act -> World -> Prop) (RR : Ending -> World -> Prop), Hid (∀ (z2 z9 z10 z11 z12 z13 z14 z15 z16 z17 z18 z19 z45 z46 z47 z48 z49 z50 z51 z52 z53 z54 z55 z56 z57 z58 z59 z60 z61 z62 z63 z64 z65 z66 z67 z68 z69 z70 z71 z72 z73 z74 z75 z76 z77 z78 z79 z80 z81 z82 z83 z84 z85 z86 z87 z88 z89 z90 z91 z92 z93 z94 z95 z96 z97 z98 z99 z100 z101 z102 z103 z104 z105 z106 z107 z108 z109 z110 z111 z112 z113 z114 z115 z116 z117 z118 z119 z120 z121 z122 z123 z124 z125 z126 z127 z128 z129 z130 z131 z132 z133 z134 z135 z136 z137 z138 z139 z140 z141 z142 z143 z144 z145 z146 z147 z148 z149 z150 z151 z152 z153 z154 z155 z156 z157 z158 z159 z160 z161 z162 z163 z164 z165 z166 z167 z168 z169 z170 z171 z172 z173 z174 z175 z176 z177 z178 z179 z180 z181 z182 z183 z184 z185 z186 z187 z188 z189 z190 z191 z192 z193 z194 z195 z196 z197 z198 z199 z200 z201 z202 z203 z204 z205 z206 z207 z208 : Value) (W : World), OutW w R KB mb bq xb N k W -> KK ⟨List.toArray (y0 :: y1 :: z2 :: .pointer (some ⟨R, 0, none⟩) :: .pointer (some ⟨mb, 0, none⟩) :: .pointer (some ⟨N, 0, none⟩) :: .pointer (some ⟨xb, 0, none⟩) :: y7 :: .pointer (some ⟨ab, 0, none⟩) :: z9 :: z10 :: z11 :: z12 :: z13 :: z14 :: z15 :: z16 :: z17 :: z18 :: z19 :: y20 :: y21 :: y22 :: y23 :: y24 :: y25 :: y26 :: y27 :: y28 :: y29 :: y30 :: y31 :: y32 :: y33 :: y34 :: y35 :: y36 :: y37 :: y38 :: y39 :: y40 :: y41 :: y42 :: y43 :: .int .i64 DK :: z45 :: z46 :: z47 :: z48 :: z49 :: z50 :: z51 :: z52 :: z53 :: z54 :: z55 :: z56 :: z57 :: z58 :: z59 :: z60 :: z61 :: z62 :: z63 :: z64 :: z65 :: z66 :: z67 :: z68 :: z69 :: z70 :: z71 :: z72 :: z73 :: z74 :: z75 :: z76 :: z77 :: z78 :: z79 :: z80 :: z81 :: z82 :: z83 :: z84 :: z85 :: z86 :: z87 :: z88 :: z89 :: z90 :: z91 :: z92 :: z93 :: z94 :: z95 :: z96 :: z97 :: z98 :: z99 :: z100 :: z101 :: z102 :: z103 :: z104 :: z105 :: z106 :: z107 :: z108 :: z109 :: z110 :: z111 :: z112 :: z113 :: z114 :: z115 :: z116 :: z117 :: z118 :: z119 :: z120 :: z121 :: z122 :: z123 :: z124 :: z125 :: z126 :: z127 :: z128 :: z129 :: z130 :: z131 :: z132 :: z133 :: z134 :: z135 :: z136 :: z137 :: z138 :: z139 :: z140 :: z141 :: z142 :: z143 :: z144 :: z145 :: z146 :: z147 :: z148 :: z149 :: z150 :: z151 :: z152 :: z153 :: z154 :: z155 :: z156 :: z157 :: z158 :: z159 :: z160 :: z161 :: z162 :: z163 :: z164 :: z165 :: z166 :: z167 :: z168 :: z169 :: z170 :: z171 :: z172 :: z173 :: z174 :: z175 :: z176 :: z177 :: z178 :: z179 :: z180 :: z181 :: z182 :: z183 :: z184 :: z185 :: z186 :: z187 :: z188 :: z189 :: z190 :: z191 :: z192 :: z193 :: z194 :: z195 :: z196 :: z197 :: z198 :: z199 :: z200 :: z201 :: z202 :: z203 :: z204 :: z205 :: z206 :: z207 :: z208 :: y209 :: y210 :: y211 :: y212 :: y213 :: y214 :: y215 :: y216 :: y217 :: y218 :: y219 :: y220 :: y221 :: y222 :: y223 :: y224 :: y225 :: y226 :: y227 :: y228 :: y229 :: y230 :: y231 :: y232 :: y233 :: y234 :: y235 :: y236 :: y237 :: y238 :: y239 :: y240 :: y241 :: []), []⟩ W) -> Code.wp Tryd.prog ((Tryd.f3.body.bind (blAt 2)).getD .skip) (Exit.then KK (Exit.inBlock 1 (Exit.then KL (Exit.then KM (Exit.inBlock 0 (Exit.then KN (bodyPost Tryd.prog Tryd.f3 RR))))))) ⟨List.toArray (y0 :: y1 :: y2 :: .pointer (some ⟨R, 0, none⟩) :: .pointer (some ⟨mb, 0, none⟩) :: .pointer (some ⟨N, 0, none⟩) :: .pointer (some ⟨xb, 0, none⟩) :: y7 :: .pointer (some ⟨ab, 0, none⟩) :: y9 :: y10 :: y11 :: y12 :: y13 :: y14 :: y15 :: y16 :: y17 :: y18 :: y19 :: y20 :: y21 :: y22 :: y23 :: y24 :: y25 :: y26 :: y27 :: y28 :: y29 :: y30 :: y31 :: y32 :: y33 :: y34 :: y35 :: y36 :: y37 :: y38 :: y39 :: y40 :: y41 :: y42 :: y43 :: .int .i64 DK :: y45 :: y46 :: y47 :: y48 :: y49 :: y50 :: y51 :: y52 :: y53 :: y54 :: y55 :: y56 :: y57 :: y58 :: y59 :: y60 :: y61 :: y62 :: y63 :: y64 :: y65 :: y66 :: y67 :: y68 :: y69 :: y70 :: y71 :: y72 :: y73 :: y74 :: y75 :: y76 :: y77 :: y78 :: y79 :: y80 :: y81 :: y82 :: y83 :: y84 :: y85 :: y86 :: y87 :: y88 :: y89 :: y90 :: y91 :: y92 :: y93 :: y94 :: y95 :: y96 :: y97 :: y98 :: y99 :: y100 :: y101 :: y102 :: y103 :: y104 :: y105 :: y106 :: y107 :: y108 :: y109 :: y110 :: y111 :: y112 :: y113 :: y114 :: y115 :: y116 :: y117 :: y118 :: y119 :: y120 :: y121 :: y122 :: y123 :: y124 :: y125 :: y126 :: y127 :: y128 :: y129 :: y130 :: y131 :: y132 :: y133 :: y134 :: y135 :: y136 :: y137 :: y138 :: y139 :: y140 :: y141 :: y142 :: y143 :: y144 :: y145 :: y146 :: y147 :: y148 :: y149 :: y150 :: y151 :: y152 :: y153 :: y154 :: y155 :: y156 :: y157 :: y158 :: y159 :: y160 :: y161 :: y162 :: y163 :: y164 :: y165 :: y166 :: y167 :: y168 :: y169 :: y170 :: y171 :: y172 :: y173 :: y174 :: y175 :: y176 :: y177 :: y178 :: y179 :: y180 :: y181 :: y182 :: y183 :: y184 :: y185 :: y186 :: y187 :: y188 :: y189 :: y190 :: y191 :: y192 :: y193 :: y194 :: y195 :: y196 :: y197 :: y198 :: y199 :: y200 :: y201 :: y202 :: y203 :: y204 :: y205 :: y206 :: y207 :: y208 :: y209 :: y210 :: y211 :: y212 :: y213 :: y214 :: y215 :: y216 :: y217 :: y218 :: y219 :: y220 :: y221 :: y222 :: y223 :: y224 :: y225 :: y226 :: y227 :: y228 :: y229 :: y230 :: y231 :: y232 :: y233 :: y234 :: y235 :: y236 :: y237 :: y238 :: y239 :: y240 :: y241 :: []), []⟩ w1
end Go.Proofs.YtkajndonefkegaaDoor.MmuPlays
