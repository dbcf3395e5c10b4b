/-
  Where the document's unit and memory lie; what a call of Translate hands back.
-/
import Derived.Test.YtkajndonefkegaaDoorMmuPair
import Derived.Test.YtkajndonefkegaaDoorGMr
set_option maxRecDepth 100000
set_option maxHeartbeats 64000000
namespace Go.Proofs.YtkajndonefkegaaDoor
open Go.RowKit Words FieldMath PteMath

structure DocAt (W : World) (b : Nat) (B : Nat -> Prop) (s1 : Option Addr) (n1 q1 : Nat) (s2 : Option Addr) (n2 q2 : Nat) (sa : Option Addr) (na ca : Nat) (sb : Option Addr) (nb cb : Nat) (ls : List LayD) (K : Nat -> List (LnX Int)) (E : List Fd) : Prop where
  lines : RefB W b (.slice s1 n1 q1) (upF K 4)
  ents : EntB W b (.slice s2 n2 q2) E
  mem : MemR W B sa na ca sb nb cb (laidR ls)
def OutD (w : World) (b : Nat) (B : Nat -> Prop) (A : Int) (G : Bool) (r : ResD) (e : Ending) (w' : World) : Prop := ∃ s1 n1 q1 s2 n2 q2 sa na ca sb nb cb, e = .returned (.tuple #[.agg #[.slice s1 n1 q1, .slice s2 n2 q2, .int .u64 0, .int .u64 A, .bool G], .agg #[.int .i64 8, .slice sa na ca, .slice sb nb cb, .slice none 0 0], .agg #[.int .u64 r.1.1, .bool r.1.2.1], .int .i64 r.1.2.2]) /\ DocAt w' b B s1 n1 q1 s2 n2 q2 sa na ca sb nb cb r.2.1 r.2.2.1 r.2.2.2 /\ Below w.heap.size w w'
theorem outd_of {w : World} {b : Nat} {B : Nat -> Prop} {A : Int} {G : Bool} {r : ResD} {e : Ending} {w' : World} {Z Q : Int} {S : Bool} {L : List (LnX Int)} {E : List Fd} {D : List (Nat × BitVec 8)} (h1 : Z = r.1.1) (h2 : S = r.1.2.1) (h3 : Q = r.1.2.2) (h4 : L = upF r.2.2.1 4) (h5 : E = r.2.2.2) (h6 : D = laidR r.2.1)
    (h : ∃ s1 n1 q1 s2 n2 q2 sa na ca sb nb cb, e = .returned (.tuple #[.agg #[.slice s1 n1 q1, .slice s2 n2 q2, .int .u64 0, .int .u64 A, .bool G], .agg #[.int .i64 8, .slice sa na ca, .slice sb nb cb, .slice none 0 0], .agg #[.int .u64 Z, .bool S], .int .i64 Q]) /\ RefB w' b (.slice s1 n1 q1) L /\ EntB w' b (.slice s2 n2 q2) E /\ MemR w' B sa na ca sb nb cb D /\ Below w.heap.size w w') : OutD w b B A G r e w' := by
  subst h1 h2 h3 h4 h5 h6
  obtain ⟨s1, n1, q1, s2, n2, q2, sa, na, ca, sb, nb, cb, h1, h2, h3, h4, h5⟩ := h
  exact ⟨s1, n1, q1, s2, n2, q2, sa, na, ca, sb, nb, cb, h1, ⟨h2, h3, h4⟩, h5⟩

end Go.Proofs.YtkajndonefkegaaDoor
