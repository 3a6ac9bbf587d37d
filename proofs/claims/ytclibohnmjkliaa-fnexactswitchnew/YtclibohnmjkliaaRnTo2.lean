/- A round copied whole; two rounds held against each other. -/
import Derived.Test.YtclibohnmjkliaaRnTo
namespace Go.Proofs.Ytclibohnmjkliaa
open Go.RowKit
set_option linter.unusedVariables false
set_option linter.unusedSimpArgs false

theorem three_laidR {w w1 : World} {A B C : Obj} (h : Below (((w.alloc A).alloc B).alloc C).heap.size (((w.alloc A).alloc B).alloc C) w1) :
    w1.heap[w.heap.size]? = some A ∧ w1.heap[w.heap.size + 1]? = some B ∧ w1.heap[w.heap.size + 1 + 1]? = some C ∧ Below w.heap.size w w1 ∧ w.heap.size + 3 ≤ w1.heap.size := by
  have e1 : (w.alloc A).heap.size = w.heap.size + 1 := by simp
  have e2 : ((w.alloc A).alloc B).heap.size = w.heap.size + 1 + 1 := by simp
  have e3 : (((w.alloc A).alloc B).alloc C).heap.size = w.heap.size + 1 + 1 + 1 := by simp
  rw [e3] at h
  have b1 := blk_new w A
  have b2 := blk_new (w.alloc A) B
  rw [e1] at b2
  have b3 := blk_new ((w.alloc A).alloc B) C
  rw [e2] at b3
  refine ⟨?_, ?_, ?_, ?_, ?_⟩
  · rw [h.block _ (by omega), blk_old _ (by rw [e2]; omega), blk_old _ (by rw [e1]; omega)]; exact b1
  · rw [h.block _ (by omega), blk_old _ (by rw [e2]; omega)]; exact b2
  · rw [h.block _ (by omega)]; exact b3
  · exact ((((Below.refl _ _).alloc (Nat.le_refl _) _).alloc (by rw [e1]; omega) _).alloc (by rw [e2]; omega) _).trans (h.mono (by omega))
  · have := h.size
    omega
/-- the same round, in rows of its own -/
def Rnd.copy (R : Rnd) (gQ gD gS : Nat) (G : Nat → Nat) : Rnd :=
  ⟨some ⟨gQ, 0, none⟩, R.nQ, R.nQ, R.q, some ⟨gD, 0, none⟩, R.nD, R.nD, R.d, R.turn, R.fresh, some ⟨gS, 0, none⟩, R.nS, R.nS, fun i => some ⟨G i, 0, none⟩, R.L, R.L, R.z⟩
structure Copied (w : World) (R : Rnd) (gQ gD gS : Nat) (G : Nat → Nat) : Prop where
  q : RowTo gQ 2 R.nQ (fun i => .int .i64 (R.q i)) R.nQ w
  d : RowTo gD 2 R.nD (fun i => .int .i64 (R.d i)) R.nD w
  s : Rows2 w gS gS R.nS R.nS G R.L R.z
  lt : gQ < gD ∧ gD < gS
theorem Copied.rd {w : World} {R : Rnd} {gQ gD gS : Nat} {G : Nat → Nat} (h : Copied w R gQ gD gS G) : RdRnd w (R.copy gQ gD gS G) :=
  ⟨h.q.read, h.d.read, h.s.top.read, fun i hi => (h.s.row i hi).read⟩
theorem Copied.up {w w' : World} {R : Rnd} {gQ gD gS : Nat} {G : Nat → Nat} (h : Copied w R gQ gD gS G) (hb : Below w.heap.size w w') : Copied w' R gQ gD gS G :=
  ⟨h.q.keep (hb.block _ h.q.lt), h.d.keep (hb.block _ h.d.lt), h.s.keep hb, h.lt⟩
theorem copy_ok {R : Rnd} {gQ gD gS : Nat} {G : Nat → Nat} : (R.copy gQ gD gS G).Ok ↔ R.Ok := ⟨fun h => ⟨h.n, h.d, h.s, h.t, h.c⟩, fun h => ⟨h.n, h.d, h.s, h.t, h.c⟩⟩
theorem copy_fit {R : Rnd} {gQ gD gS : Nat} {G : Nat → Nat} (h : R.Fit) : (R.copy gQ gD gS G).Fit := ⟨h.q, h.d, h.s, h.l⟩
theorem small_fit {R : Rnd} (h : R.Small) : R.Fit := ⟨by have := h.q; unfold maxLen; omega, by have := h.d; unfold maxLen; omega, by have := h.s; unfold maxLen; omega, fun i hi => by have := h.l i hi; unfold maxLen; omega⟩

set_option maxHeartbeats 1000000 in
theorem eqRound_any (R1 R2 : Rnd) (w : World) (hs : R1.Small) (h1 : RdRnd w R1) (h2 : RdRnd w R2) (eQ : R2.nQ = R1.nQ) (eq : R2.q = R1.q) (eD : R2.nD = R1.nD) (ed : R2.d = R1.d) (et : R2.turn = R1.turn) (ef : R2.fresh = R1.fresh) (eS : R2.nS = R1.nS) (eL : R2.L = R1.L) (ez : R2.z = R1.z) :
    Calls Try.prog 53 #[.agg R1.cells, .agg R2.cells] w fun e w' => e = .returned (.bool true) ∧ Below w.heap.size w w' := by
  obtain ⟨aQ, nQ, cQ, q, aD, nD, cD, d, turn, fresh, aS, nS, cS, A, L, C, z⟩ := R1
  obtain ⟨aQ2, nQ2, cQ2, q2, aD2, nD2, cD2, d2, turn2, fresh2, aS2, nS2, cS2, A2, L2, C2, z2⟩ := R2
  dsimp only at eQ eq eD ed et ef eS eL ez
  subst eQ eq eD ed et ef eS eL ez
  have H1 : Hid (RdRnd w ⟨aQ, _, cQ, _, aD, _, cD, _, _, _, aS, _, cS, A, _, C, _⟩) := h1
  have H2 : Hid (RdRnd w ⟨aQ2, _, cQ2, _, aD2, _, cD2, _, _, _, aS2, _, cS2, A2, _, C2, _⟩) := h2
  have HS : Hid (Rnd.Small ⟨aQ, _, cQ, _, aD, _, cD, _, _, _, aS, _, cS, A, _, C, _⟩) := hs
  clear h1 h2 hs
  have HA : Hid (∀ o1 o2, Below w.heap.size w ((w.alloc o1).alloc o2)) := fun o1 o2 => (((Below.refl _ _).alloc (Nat.le_refl _) _).alloc (by simp) _)
  unfold Rnd.cells
  go_enter Try.func53, Try.ntmps53
  go_wp2_with fail
  refine (eqInts_any _ _ _ _ _ _ _ HS.out.q (H1.out.q.up (HA.out _ _)) (H2.out.q.up (HA.out _ _))).mono ?_
  rintro e w1 ⟨rfl, hS1⟩
  have c1 := fun (b : Nat) (i : Nat) => hS1.cell ⟨b, i, none⟩
  have b1 := (HA.out _ _).trans (hS1.below _)
  go_wp2_with fail
  refine (eqInts_any _ _ _ _ _ _ _ HS.out.d (H1.out.d.up b1) (H2.out.d.up b1)).mono ?_
  rintro e w2 ⟨rfl, hS2⟩
  have c2 := fun (b : Nat) (i : Nat) => hS2.cell ⟨b, i, none⟩
  have b2 := b1.trans (hS2.below _)
  go_wp2_with fail
  refine (eqIntss_any _ _ _ _ _ _ _ _ _ _ _ _ HS.out.s HS.out.l (H1.out.s.up b2) (H2.out.s.up b2) (fun i hi => (H1.out.z i hi).up b2) (fun i hi => (H2.out.z i hi).up b2)).mono ?_
  rintro e w3 ⟨rfl, hS3⟩
  have c3 := fun (b : Nat) (i : Nat) => hS3.cell ⟨b, i, none⟩
  have b3 := b2.trans (hS3.below _)
  go_wp2_with fail
  go_ret
  exact ⟨rfl, b3⟩
end Go.Proofs.Ytclibohnmjkliaa
