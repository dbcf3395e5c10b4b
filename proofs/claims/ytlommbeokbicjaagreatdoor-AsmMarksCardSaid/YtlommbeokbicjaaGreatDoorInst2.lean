/-
  What inst.parts answers (a slice of its own that lists a shape's parts), and inst.fits.
-/
import Derived.Test.YtlommbeokbicjaaGreatDoorInst1
import Derived.Test.YtlommbeokbicjaaGreatDoorFieldWalks
namespace Go.Proofs.YtlommbeokbicjaaGreatDoor
open Go.RowKit Words FieldMath InstMath

/-- v is a slice, from block b on, that lists the parts L. -/
def Parts (v : Value) (L : List Prt) (W : World) (b : Nat) : Prop :=
  (L = [] ∧ v = .slice none 0 0) ∨ ∃ N : Nat, b ≤ N ∧ v = .slice (some ⟨N, 0, none⟩) L.length L.length ∧ ∀ i p, L[i]? = some p →
    W.cell? ⟨N, i * 4, none⟩ = some (.int .i64 (p.1 : Int)) ∧ W.cell? ⟨N, i * 4 + 1, none⟩ = some (.int .i64 (p.2.1 : Int)) ∧
    W.cell? ⟨N, i * 4 + 2, none⟩ = some (.int .i64 (p.2.2.1 : Int)) ∧ W.cell? ⟨N, i * 4 + 3, none⟩ = some (.int .i64 (p.2.2.2 : Int))
def GivesP (L : List Prt) (w : World) (e : Ending) (w' : World) : Prop := ∃ v, e = .returned v ∧ Below w.heap.size w w' ∧ Parts v L w' w.heap.size
set_option maxHeartbeats 1000000 in
theorem parts_R (w : World) : Calls Tryz.prog 16 #[.int .u8 82] w (GivesP (partsL 82) w) := by
  rw [show partsL 82 = [(0, 0, 5, 7), (1, 0, 5, 15), (2, 0, 5, 20)] from rfl]
  have SS := cell_same
  have LB' := ltB_add
  have LS := ltB_self
  have LA' := alloc_reads
  have LH := alloc_holds
  go_enter Tryz.func16, Tryz.ntmps16
  go_wp2
  refine bodyPost_ret (by simp (maxDischargeDepth := 4) [results, Tryz.results16, go_sem, *]; rfl) rfl ?_
  refine ⟨_, rfl, ?_, .inr ⟨_, ?_, rfl, fun i p hp => ?_⟩⟩
  · repeat (first | with_reducible assumption | with_reducible exact Below.refl _ _ | with_reducible refine Below.drew ?_ | with_reducible refine below_drewN ?_ _ | with_reducible refine bw_alloc ?_ _ | (with_reducible refine bw_set ?_ ?_ _; focus (dsimp only; omega)) | (with_reducible apply bw_behind; with_reducible assumption))
  · (first | omega | (simp; done) | (simp; omega))
  · match i, hp with
    | 0, hp => obtain rfl := Option.some.inj hp; refine ⟨?_, ?_, ?_, ?_⟩ <;> (simp [go_sem])
    | 1, hp => obtain rfl := Option.some.inj hp; refine ⟨?_, ?_, ?_, ?_⟩ <;> (simp [go_sem])
    | 2, hp => obtain rfl := Option.some.inj hp; refine ⟨?_, ?_, ?_, ?_⟩ <;> (simp [go_sem])
    | i + 3, hp => simp at hp
set_option maxHeartbeats 1000000 in
theorem parts_G (w : World) : Calls Tryz.prog 16 #[.int .u8 71] w (GivesP (partsL 71) w) := by
  rw [show partsL 71 = [(0, 0, 5, 7), (1, 0, 5, 15)] from rfl]
  have SS := cell_same
  have LB' := ltB_add
  have LS := ltB_self
  have LA' := alloc_reads
  have LH := alloc_holds
  go_enter Tryz.func16, Tryz.ntmps16
  go_wp2
  refine bodyPost_ret (by simp (maxDischargeDepth := 4) [results, Tryz.results16, go_sem, *]; rfl) rfl ?_
  refine ⟨_, rfl, ?_, .inr ⟨_, ?_, rfl, fun i p hp => ?_⟩⟩
  · repeat (first | with_reducible assumption | with_reducible exact Below.refl _ _ | with_reducible refine Below.drew ?_ | with_reducible refine below_drewN ?_ _ | with_reducible refine bw_alloc ?_ _ | (with_reducible refine bw_set ?_ ?_ _; focus (dsimp only; omega)) | (with_reducible apply bw_behind; with_reducible assumption))
  · (first | omega | (simp; done) | (simp; omega))
  · match i, hp with
    | 0, hp => obtain rfl := Option.some.inj hp; refine ⟨?_, ?_, ?_, ?_⟩ <;> (simp [go_sem])
    | 1, hp => obtain rfl := Option.some.inj hp; refine ⟨?_, ?_, ?_, ?_⟩ <;> (simp [go_sem])
    | i + 2, hp => simp at hp
set_option maxHeartbeats 1000000 in
theorem parts_I (w : World) : Calls Tryz.prog 16 #[.int .u8 73] w (GivesP (partsL 73) w) := by
  rw [show partsL 73 = [(0, 0, 5, 7), (1, 0, 5, 15), (3, 0, 12, 20)] from rfl]
  have SS := cell_same
  have LB' := ltB_add
  have LS := ltB_self
  have LA' := alloc_reads
  have LH := alloc_holds
  go_enter Tryz.func16, Tryz.ntmps16
  go_wp2
  refine bodyPost_ret (by simp (maxDischargeDepth := 4) [results, Tryz.results16, go_sem, *]; rfl) rfl ?_
  refine ⟨_, rfl, ?_, .inr ⟨_, ?_, rfl, fun i p hp => ?_⟩⟩
  · repeat (first | with_reducible assumption | with_reducible exact Below.refl _ _ | with_reducible refine Below.drew ?_ | with_reducible refine below_drewN ?_ _ | with_reducible refine bw_alloc ?_ _ | (with_reducible refine bw_set ?_ ?_ _; focus (dsimp only; omega)) | (with_reducible apply bw_behind; with_reducible assumption))
  · (first | omega | (simp; done) | (simp; omega))
  · match i, hp with
    | 0, hp => obtain rfl := Option.some.inj hp; refine ⟨?_, ?_, ?_, ?_⟩ <;> (simp [go_sem])
    | 1, hp => obtain rfl := Option.some.inj hp; refine ⟨?_, ?_, ?_, ?_⟩ <;> (simp [go_sem])
    | 2, hp => obtain rfl := Option.some.inj hp; refine ⟨?_, ?_, ?_, ?_⟩ <;> (simp [go_sem])
    | i + 3, hp => simp at hp
set_option maxHeartbeats 1000000 in
theorem parts_C (w : World) : Calls Tryz.prog 16 #[.int .u8 67] w (GivesP (partsL 67) w) := by
  rw [show partsL 67 = [(0, 0, 5, 7), (1, 0, 5, 15), (3, 0, 12, 20)] from rfl]
  have SS := cell_same
  have LB' := ltB_add
  have LS := ltB_self
  have LA' := alloc_reads
  have LH := alloc_holds
  go_enter Tryz.func16, Tryz.ntmps16
  go_wp2
  refine bodyPost_ret (by simp (maxDischargeDepth := 4) [results, Tryz.results16, go_sem, *]; rfl) rfl ?_
  refine ⟨_, rfl, ?_, .inr ⟨_, ?_, rfl, fun i p hp => ?_⟩⟩
  · repeat (first | with_reducible assumption | with_reducible exact Below.refl _ _ | with_reducible refine Below.drew ?_ | with_reducible refine below_drewN ?_ _ | with_reducible refine bw_alloc ?_ _ | (with_reducible refine bw_set ?_ ?_ _; focus (dsimp only; omega)) | (with_reducible apply bw_behind; with_reducible assumption))
  · (first | omega | (simp; done) | (simp; omega))
  · match i, hp with
    | 0, hp => obtain rfl := Option.some.inj hp; refine ⟨?_, ?_, ?_, ?_⟩ <;> (simp [go_sem])
    | 1, hp => obtain rfl := Option.some.inj hp; refine ⟨?_, ?_, ?_, ?_⟩ <;> (simp [go_sem])
    | 2, hp => obtain rfl := Option.some.inj hp; refine ⟨?_, ?_, ?_, ?_⟩ <;> (simp [go_sem])
    | i + 3, hp => simp at hp
set_option maxHeartbeats 1000000 in
theorem parts_H (w : World) : Calls Tryz.prog 16 #[.int .u8 72] w (GivesP (partsL 72) w) := by
  rw [show partsL 72 = [(0, 0, 5, 7), (1, 0, 5, 15), (3, 0, 6, 20)] from rfl]
  have SS := cell_same
  have LB' := ltB_add
  have LS := ltB_self
  have LA' := alloc_reads
  have LH := alloc_holds
  go_enter Tryz.func16, Tryz.ntmps16
  go_wp2
  refine bodyPost_ret (by simp (maxDischargeDepth := 4) [results, Tryz.results16, go_sem, *]; rfl) rfl ?_
  refine ⟨_, rfl, ?_, .inr ⟨_, ?_, rfl, fun i p hp => ?_⟩⟩
  · repeat (first | with_reducible assumption | with_reducible exact Below.refl _ _ | with_reducible refine Below.drew ?_ | with_reducible refine below_drewN ?_ _ | with_reducible refine bw_alloc ?_ _ | (with_reducible refine bw_set ?_ ?_ _; focus (dsimp only; omega)) | (with_reducible apply bw_behind; with_reducible assumption))
  · (first | omega | (simp; done) | (simp; omega))
  · match i, hp with
    | 0, hp => obtain rfl := Option.some.inj hp; refine ⟨?_, ?_, ?_, ?_⟩ <;> (simp [go_sem])
    | 1, hp => obtain rfl := Option.some.inj hp; refine ⟨?_, ?_, ?_, ?_⟩ <;> (simp [go_sem])
    | 2, hp => obtain rfl := Option.some.inj hp; refine ⟨?_, ?_, ?_, ?_⟩ <;> (simp [go_sem])
    | i + 3, hp => simp at hp
set_option maxHeartbeats 1000000 in
theorem parts_S (w : World) : Calls Tryz.prog 16 #[.int .u8 83] w (GivesP (partsL 83) w) := by
  rw [show partsL 83 = [(1, 0, 5, 15), (2, 0, 5, 20), (3, 0, 5, 7), (3, 5, 7, 25)] from rfl]
  have SS := cell_same
  have LB' := ltB_add
  have LS := ltB_self
  have LA' := alloc_reads
  have LH := alloc_holds
  go_enter Tryz.func16, Tryz.ntmps16
  go_wp2
  refine bodyPost_ret (by simp (maxDischargeDepth := 4) [results, Tryz.results16, go_sem, *]; rfl) rfl ?_
  refine ⟨_, rfl, ?_, .inr ⟨_, ?_, rfl, fun i p hp => ?_⟩⟩
  · repeat (first | with_reducible assumption | with_reducible exact Below.refl _ _ | with_reducible refine Below.drew ?_ | with_reducible refine below_drewN ?_ _ | with_reducible refine bw_alloc ?_ _ | (with_reducible refine bw_set ?_ ?_ _; focus (dsimp only; omega)) | (with_reducible apply bw_behind; with_reducible assumption))
  · (first | omega | (simp; done) | (simp; omega))
  · match i, hp with
    | 0, hp => obtain rfl := Option.some.inj hp; refine ⟨?_, ?_, ?_, ?_⟩ <;> (simp [go_sem])
    | 1, hp => obtain rfl := Option.some.inj hp; refine ⟨?_, ?_, ?_, ?_⟩ <;> (simp [go_sem])
    | 2, hp => obtain rfl := Option.some.inj hp; refine ⟨?_, ?_, ?_, ?_⟩ <;> (simp [go_sem])
    | 3, hp => obtain rfl := Option.some.inj hp; refine ⟨?_, ?_, ?_, ?_⟩ <;> (simp [go_sem])
    | i + 4, hp => simp at hp
set_option maxHeartbeats 1000000 in
theorem parts_B (w : World) : Calls Tryz.prog 16 #[.int .u8 66] w (GivesP (partsL 66) w) := by
  rw [show partsL 66 = [(1, 0, 5, 15), (2, 0, 5, 20), (3, 1, 4, 8), (3, 5, 6, 25), (3, 11, 1, 7), (3, 12, 1, 31)] from rfl]
  have SS := cell_same
  have LB' := ltB_add
  have LS := ltB_self
  have LA' := alloc_reads
  have LH := alloc_holds
  go_enter Tryz.func16, Tryz.ntmps16
  go_wp2
  refine bodyPost_ret (by simp (maxDischargeDepth := 4) [results, Tryz.results16, go_sem, *]; rfl) rfl ?_
  refine ⟨_, rfl, ?_, .inr ⟨_, ?_, rfl, fun i p hp => ?_⟩⟩
  · repeat (first | with_reducible assumption | with_reducible exact Below.refl _ _ | with_reducible refine Below.drew ?_ | with_reducible refine below_drewN ?_ _ | with_reducible refine bw_alloc ?_ _ | (with_reducible refine bw_set ?_ ?_ _; focus (dsimp only; omega)) | (with_reducible apply bw_behind; with_reducible assumption))
  · (first | omega | (simp; done) | (simp; omega))
  · match i, hp with
    | 0, hp => obtain rfl := Option.some.inj hp; refine ⟨?_, ?_, ?_, ?_⟩ <;> (simp [go_sem])
    | 1, hp => obtain rfl := Option.some.inj hp; refine ⟨?_, ?_, ?_, ?_⟩ <;> (simp [go_sem])
    | 2, hp => obtain rfl := Option.some.inj hp; refine ⟨?_, ?_, ?_, ?_⟩ <;> (simp [go_sem])
    | 3, hp => obtain rfl := Option.some.inj hp; refine ⟨?_, ?_, ?_, ?_⟩ <;> (simp [go_sem])
    | 4, hp => obtain rfl := Option.some.inj hp; refine ⟨?_, ?_, ?_, ?_⟩ <;> (simp [go_sem])
    | 5, hp => obtain rfl := Option.some.inj hp; refine ⟨?_, ?_, ?_, ?_⟩ <;> (simp [go_sem])
    | i + 6, hp => simp at hp
set_option maxHeartbeats 1000000 in
theorem parts_U (w : World) : Calls Tryz.prog 16 #[.int .u8 85] w (GivesP (partsL 85) w) := by
  rw [show partsL 85 = [(0, 0, 5, 7), (3, 12, 20, 12)] from rfl]
  have SS := cell_same
  have LB' := ltB_add
  have LS := ltB_self
  have LA' := alloc_reads
  have LH := alloc_holds
  go_enter Tryz.func16, Tryz.ntmps16
  go_wp2
  refine bodyPost_ret (by simp (maxDischargeDepth := 4) [results, Tryz.results16, go_sem, *]; rfl) rfl ?_
  refine ⟨_, rfl, ?_, .inr ⟨_, ?_, rfl, fun i p hp => ?_⟩⟩
  · repeat (first | with_reducible assumption | with_reducible exact Below.refl _ _ | with_reducible refine Below.drew ?_ | with_reducible refine below_drewN ?_ _ | with_reducible refine bw_alloc ?_ _ | (with_reducible refine bw_set ?_ ?_ _; focus (dsimp only; omega)) | (with_reducible apply bw_behind; with_reducible assumption))
  · (first | omega | (simp; done) | (simp; omega))
  · match i, hp with
    | 0, hp => obtain rfl := Option.some.inj hp; refine ⟨?_, ?_, ?_, ?_⟩ <;> (simp [go_sem])
    | 1, hp => obtain rfl := Option.some.inj hp; refine ⟨?_, ?_, ?_, ?_⟩ <;> (simp [go_sem])
    | i + 2, hp => simp at hp
set_option maxHeartbeats 1000000 in
theorem parts_J (w : World) : Calls Tryz.prog 16 #[.int .u8 74] w (GivesP (partsL 74) w) := by
  rw [show partsL 74 = [(0, 0, 5, 7), (3, 12, 8, 12), (3, 11, 1, 20), (3, 1, 10, 21), (3, 20, 1, 31)] from rfl]
  have SS := cell_same
  have LB' := ltB_add
  have LS := ltB_self
  have LA' := alloc_reads
  have LH := alloc_holds
  go_enter Tryz.func16, Tryz.ntmps16
  go_wp2
  refine bodyPost_ret (by simp (maxDischargeDepth := 4) [results, Tryz.results16, go_sem, *]; rfl) rfl ?_
  refine ⟨_, rfl, ?_, .inr ⟨_, ?_, rfl, fun i p hp => ?_⟩⟩
  · repeat (first | with_reducible assumption | with_reducible exact Below.refl _ _ | with_reducible refine Below.drew ?_ | with_reducible refine below_drewN ?_ _ | with_reducible refine bw_alloc ?_ _ | (with_reducible refine bw_set ?_ ?_ _; focus (dsimp only; omega)) | (with_reducible apply bw_behind; with_reducible assumption))
  · (first | omega | (simp; done) | (simp; omega))
  · match i, hp with
    | 0, hp => obtain rfl := Option.some.inj hp; refine ⟨?_, ?_, ?_, ?_⟩ <;> (simp [go_sem])
    | 1, hp => obtain rfl := Option.some.inj hp; refine ⟨?_, ?_, ?_, ?_⟩ <;> (simp [go_sem])
    | 2, hp => obtain rfl := Option.some.inj hp; refine ⟨?_, ?_, ?_, ?_⟩ <;> (simp [go_sem])
    | 3, hp => obtain rfl := Option.some.inj hp; refine ⟨?_, ?_, ?_, ?_⟩ <;> (simp [go_sem])
    | 4, hp => obtain rfl := Option.some.inj hp; refine ⟨?_, ?_, ?_, ?_⟩ <;> (simp [go_sem])
    | i + 5, hp => simp at hp
set_option maxHeartbeats 1000000 in
theorem parts_N (w : World) : Calls Tryz.prog 16 #[.int .u8 78] w (GivesP (partsL 78) w) := by
  rw [show partsL 78 = [] from rfl]
  have SS := cell_same
  have LB' := ltB_add
  have LS := ltB_self
  have LA' := alloc_reads
  have LH := alloc_holds
  go_enter Tryz.func16, Tryz.ntmps16
  go_wp2
  refine bodyPost_ret (by simp (maxDischargeDepth := 4) [results, Tryz.results16, go_sem, *]; rfl) rfl ?_
  exact ⟨_, rfl, by (repeat (first | with_reducible assumption | with_reducible exact Below.refl _ _ | with_reducible refine Below.drew ?_ | with_reducible refine below_drewN ?_ _ | with_reducible refine bw_alloc ?_ _ | (with_reducible refine bw_set ?_ ?_ _; focus (dsimp only; omega)) | (with_reducible apply bw_behind; with_reducible assumption))), .inl ⟨rfl, rfl⟩⟩
theorem parts_any (s : Nat) (hs : IsShape s) (w : World) : Calls Tryz.prog 16 #[.int .u8 (s : Int)] w (GivesP (partsL s) w) :=
  each_shape (P := fun s => Calls Tryz.prog 16 #[.int .u8 (s : Int)] w (GivesP (partsL s) w)) ⟨parts_R w, parts_G w, parts_I w, parts_C w, parts_H w, parts_S w, parts_B w, parts_U w, parts_J w, parts_N w⟩ hs
end Go.Proofs.YtlommbeokbicjaaGreatDoor
