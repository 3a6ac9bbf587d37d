/- A round copied whole; two rounds held against each other. -/
import Derived.Test.YtapmhpdcgghihaaRnTo
namespace Go.Proofs.Ytapmhpdcgghihaa
open Go.RowKit
set_option linter.unusedVariables false
set_option linter.unusedSimpArgs false

theorem three_laidR {w w1 : World} {A B C : Obj} (h : Below (((w.alloc A).alloc B).alloc C).heap.size (((w.alloc A).alloc B).alloc C) w1) :
    w1.heap[w.heap.size]? = some A ∧ w1.heap[w.heap.size + 1]? = some B ∧ w1.heap[w.heap.size + 1 + 1]? = some C ∧ Below w.heap.size w w1 ∧ w.heap.size + 3 ≤ w1.heap.size := by
  have e1 : (w.alloc A).heap.size = w.heap.size + 1 := by simp
  have e2 : ((w.alloc A).alloc B).heap.size = w.heap.size + 1 + 1 := by simp
  have e3 : (((w.alloc A).alloc B).alloc C).heap.size = w.heap.size + 1 + 1 + 1 := by simp
  rw [e3] at h
  have b1 := blk_new w A
  have b2 := blk_new (w.alloc A) B
  rw [e1] at b2
  have b3 := blk_new ((w.alloc A).alloc B) C
  rw [e2] at b3
  refine ⟨?_, ?_, ?_, ?_, ?_⟩
  · rw [h.block _ (by omega), blk_old _ (by rw [e2]; omega), blk_old _ (by rw [e1]; omega)]; exact b1
  · rw [h.block _ (by omega), blk_old _ (by rw [e2]; omega)]; exact b2
  · rw [h.block _ (by omega)]; exact b3
  · exact ((((Below.refl _ _).alloc (Nat.le_refl _) _).alloc (by rw [e1]; omega) _).alloc (by rw [e2]; omega) _).trans (h.mono (by omega))
  · have := h.size
    omega
/-- the same round, in rows of its own -/
def Rnd.copy (R : Rnd) (gQ gD gS : Nat) (G : Nat → Nat) : Rnd :=
  ⟨some ⟨gQ, 0, none⟩, R.nQ, R.nQ, R.q, some ⟨gD, 0, none⟩, R.nD, R.nD, R.d, R.turn, R.fresh, some ⟨gS, 0, none⟩, R.nS, R.nS, fun i => some ⟨G i, 0, none⟩, R.L, R.L, R.z⟩
structure Copied (w : World) (R : Rnd) (gQ gD gS : Nat) (G : Nat → Nat) : Prop where
  q : RowTo gQ 2 R.nQ (fun i => .int .i64 (R.q i)) R.nQ w
  d : RowTo gD 2 R.nD (fun i => .int .i64 (R.d i)) R.nD w
  s : Rows2 w gS gS R.nS R.nS G R.L R.z
  lt : gQ < gD ∧ gD < gS
theorem Copied.rd {w : World} {R : Rnd} {gQ gD gS : Nat} {G : Nat → Nat} (h : Copied w R gQ gD gS G) : RdRnd w (R.copy gQ gD gS G) :=
  ⟨h.q.read, h.d.read, h.s.top.read, fun i hi => (h.s.row i hi).read⟩
theorem Copied.up {w w' : World} {R : Rnd} {gQ gD gS : Nat} {G : Nat → Nat} (h : Copied w R gQ gD gS G) (hb : Below w.heap.size w w') : Copied w' R gQ gD gS G :=
  ⟨h.q.keep (hb.block _ h.q.lt), h.d.keep (hb.block _ h.d.lt), h.s.keep hb, h.lt⟩
theorem copy_ok {R : Rnd} {gQ gD gS : Nat} {G : Nat → Nat} : (R.copy gQ gD gS G).Ok ↔ R.Ok := ⟨fun h => ⟨h.n, h.d, h.s, h.t, h.c⟩, fun h => ⟨h.n, h.d, h.s, h.t, h.c⟩⟩
theorem copy_fit {R : Rnd} {gQ gD gS : Nat} {G : Nat → Nat} (h : R.Fit) : (R.copy gQ gD gS G).Fit := ⟨h.q, h.d, h.s, h.l⟩
theorem small_fit {R : Rnd} (h : R.Small) : R.Fit := ⟨by have := h.q; unfold maxLen; omega, by have := h.d; unfold maxLen; omega, by have := h.s; unfold maxLen; omega, fun i hi => by have := h.l i hi; unfold maxLen; omega⟩

set_option maxHeartbeats 2000000 in
theorem toRound_any (R : Rnd) (w : World) (hs : R.Small) (h : RdRnd w R) :
    Calls Try.prog 10 #[.agg R.cells] w fun e w' => ∃ gQ gD gS G, e = .returned (.agg (R.copy gQ gD gS G).cells) ∧ w.heap.size ≤ gQ ∧ Copied w' R gQ gD gS G ∧ Below w.heap.size w w' := by
  obtain ⟨aQ, nQ, cQ, q, aD, nD, cD, d, turn, fresh, aS, nS, cS, A, L, C, z⟩ := R
  have HR : Hid (RdRnd w ⟨aQ, nQ, cQ, q, aD, nD, cD, d, turn, fresh, aS, nS, cS, A, L, C, z⟩) := h
  have HS : Hid (Rnd.Small ⟨aQ, nQ, cQ, q, aD, nD, cD, d, turn, fresh, aS, nS, cS, A, L, C, z⟩) := hs
  clear h hs
  unfold Rnd.cells
  go_enter Try.func10, Try.ntmps10
  go_wp2_with fail
  have HA : Hid (∀ A B C, Below w.heap.size w (((w.alloc A).alloc B).alloc C)) := fun A B C => (((Below.refl _ _).alloc (Nat.le_refl _) _).alloc (by simp) _).alloc (by simp; omega) _
  have e3 : ∀ A B C, (((w.alloc A).alloc B).alloc C).heap.size = w.heap.size + 1 + 1 + 1 := fun A B C => by simp
  refine (toInts_any aQ nQ cQ q _ HS.out.q (HR.out.q.up (HA.out _ _ _))).mono ?_
  rintro e w1 ⟨rfl, hN, hb1⟩
  obtain ⟨kA, kB, kC, B1, z1⟩ := three_laidR hb1
  rw [e3] at hN
  have cA := blk_cell kA
  have cC := blk_cell kC
  have fC := blk_free kC
  have lN := hN.lt
  clear hb1 HA
  go_wp2_with fail
  obtain ⟨v1, hv1⟩ : ∃ v1 : Value, v1 = .slice (some ⟨w.heap.size + 1 + 1 + 1, 0, none⟩) nQ nQ := ⟨_, rfl⟩
  have kA' := (blk_set_ne (w := w1) (g := w.heap.size + 1 + 1) (k := w.heap.size) (i := 0) (by omega) v1).trans kA
  have kB' := (blk_set_ne (w := w1) (g := w.heap.size + 1 + 1) (k := w.heap.size + 1) (i := 0) (by omega) v1).trans kB
  have kC' : (w1.setCell ⟨w.heap.size + 1 + 1, 0, none⟩ v1).heap[w.heap.size + 1 + 1]? = some (.cells #[v1, .slice none 0 0, .int .i64 0, .bool false, .slice none 0 0] 28 (0, 0)) := blk_set kC _
  have hN' := hN.keep (blk_set_ne (w := w1) (g := w.heap.size + 1 + 1) (k := w.heap.size + 1 + 1 + 1) (i := 0) (by omega) v1)
  have B1' := B1.setCell (p := ⟨w.heap.size + 1 + 1, 0, none⟩) (by show _ ≤ _ + 1 + 1; omega) v1
  have hz3 : (w1.setCell ⟨w.heap.size + 1 + 1, 0, none⟩ v1).heap.size = w1.heap.size := by simp [World.setCell]
  rw [← hv1]
  generalize w1.setCell ⟨w.heap.size + 1 + 1, 0, none⟩ v1 = W at *
  clear kA kB kC cA cC fC hN B1
  refine (toInts_any aD nD cD d _ HS.out.d (HR.out.d.up B1')).mono ?_
  rintro e w2 ⟨rfl, hD, hb2⟩
  rw [hz3] at hD hb2
  have kA2 := (hb2.block _ (by omega)).trans kA'
  have kB2 := (hb2.block _ (by omega)).trans kB'
  have kC2 := (hb2.block _ (by omega)).trans kC'
  have hN2 := hN'.keep (hb2.block _ (by omega))
  have B2 : Below w.heap.size w w2 := B1'.trans (hb2.mono (by omega))
  have cA := blk_cell kA2
  have cC := blk_cell kC2
  have fC := blk_free kC2
  have lD := hD.lt
  have hzW : w1.heap.size < w2.heap.size := lD
  clear hb2 kA' kB' kC' hN' B1'
  go_wp2_with fail
  obtain ⟨v2, hv2⟩ : ∃ v2 : Value, v2 = .slice (some ⟨w1.heap.size, 0, none⟩) nD nD := ⟨_, rfl⟩
  rw [← hv2]
  have t1 := blk_set (i := 1) kC2 v2
  have t2 := blk_set (i := 2) t1 (.int .i64 turn)
  have t3 := blk_set (i := 3) t2 (.bool fresh)
  have hne : ∀ (k : Nat), k ≠ w.heap.size + 1 + 1 → (((w2.setCell ⟨w.heap.size + 1 + 1, 1, none⟩ v2).setCell ⟨w.heap.size + 1 + 1, 2, none⟩ (.int .i64 turn)).setCell ⟨w.heap.size + 1 + 1, 3, none⟩ (.bool fresh)).heap[k]? = w2.heap[k]? := fun k hk => by
    rw [blk_set_ne hk, blk_set_ne hk, blk_set_ne hk]
  have kA3 := (hne w.heap.size (by omega)).trans kA2
  have kB3 := (hne (w.heap.size + 1) (by omega)).trans kB2
  have hN3 := hN2.keep (hne (w.heap.size + 1 + 1 + 1) (by omega))
  have hD3 := hD.keep (hne w1.heap.size (by omega))
  have B3 := ((B2.setCell (p := ⟨w.heap.size + 1 + 1, 1, none⟩) (by show _ ≤ _ + 1 + 1; omega) v2).setCell (p := ⟨w.heap.size + 1 + 1, 2, none⟩) (by show _ ≤ _ + 1 + 1; omega) (.int .i64 turn)).setCell (p := ⟨w.heap.size + 1 + 1, 3, none⟩) (by show _ ≤ _ + 1 + 1; omega) (.bool fresh)
  have hz4 : (((w2.setCell ⟨w.heap.size + 1 + 1, 1, none⟩ v2).setCell ⟨w.heap.size + 1 + 1, 2, none⟩ (.int .i64 turn)).setCell ⟨w.heap.size + 1 + 1, 3, none⟩ (.bool fresh)).heap.size = w2.heap.size := by simp [World.setCell]
  have t3' : (((w2.setCell ⟨w.heap.size + 1 + 1, 1, none⟩ v2).setCell ⟨w.heap.size + 1 + 1, 2, none⟩ (.int .i64 turn)).setCell ⟨w.heap.size + 1 + 1, 3, none⟩ (.bool fresh)).heap[w.heap.size + 1 + 1]? = some (.cells #[v1, v2, .int .i64 turn, .bool fresh, .slice none 0 0] 28 (0, 0)) := t3
  clear t1 t2 t3 hne kA2 kB2 kC2 hN2 hD B2 cA cC fC
  generalize ((w2.setCell ⟨w.heap.size + 1 + 1, 1, none⟩ v2).setCell ⟨w.heap.size + 1 + 1, 2, none⟩ (.int .i64 turn)).setCell ⟨w.heap.size + 1 + 1, 3, none⟩ (.bool fresh) = W2 at *
  refine (toIntss_any aS nS cS A L C z _ HS.out.s (HR.out.s.up B3) (fun i hi => (HR.out.z i hi).up B3) HS.out.l).mono ?_
  rintro e w3 ⟨G, rfl, hG, hb3⟩
  rw [hz4] at hG hb3
  have kA4 := (hb3.block _ (by omega)).trans kA3
  have kB4 := (hb3.block _ (by omega)).trans kB3
  have kC4 := (hb3.block _ (by omega)).trans t3'
  have hN4 := hN3.keep (hb3.block _ (by omega))
  have hD4 := hD3.keep (hb3.block _ (by omega))
  have B4 : Below w.heap.size w w3 := B3.trans (hb3.mono (by omega))
  have cB := blk_cell kB4
  have cC := blk_cell kC4
  have fB := blk_free kB4
  have fC := blk_free kC4
  have hW0 : w.heap.size + 1 + 1 + 1 < w1.heap.size := lN
  subst hv1
  subst hv2
  clear hb3 kA3 kB3 t3' hN3 hD3 B3 kA4
  go_wp2_with fail
  refine bodyPost_ret (v := .agg #[.slice (some ⟨w.heap.size + 1 + 1 + 1, 0, none⟩) nQ nQ, .slice (some ⟨w1.heap.size, 0, none⟩) nD nD, .int .i64 turn, .bool fresh, .slice (some ⟨w2.heap.size, 0, none⟩) nS nS]) (by simp [results, Try.results10, go_sem, cB]) rfl ⟨w.heap.size + 1 + 1 + 1, w1.heap.size, w2.heap.size, G, rfl, by omega, ?_, ?_⟩
  · have hk : ∀ j, j ≠ w.heap.size + 1 → j ≠ w.heap.size + 1 + 1 → ∀ (x0 x1 x2 x3 x4 x5 : Value), (((((((w3.setCell ⟨w.heap.size + 1 + 1, 4, none⟩ x0).setCell ⟨w.heap.size + 1, 0, none⟩ x1).setCell ⟨w.heap.size + 1, 1, none⟩ x2).setCell ⟨w.heap.size + 1, 2, none⟩ x3).setCell ⟨w.heap.size + 1, 3, none⟩ x4).setCell ⟨w.heap.size + 1, 4, none⟩ x5)).heap[j]? = w3.heap[j]? := fun j h1 h2 x0 x1 x2 x3 x4 x5 => by
      rw [blk_set_ne h1, blk_set_ne h1, blk_set_ne h1, blk_set_ne h1, blk_set_ne h1, blk_set_ne h2]
    refine ⟨hN4.keep (hk _ (by omega) (by omega) _ _ _ _ _ _), hD4.keep (hk _ (by omega) (by omega) _ _ _ _ _ _), ⟨hG.top.keep (hk _ (by omega) (by omega) _ _ _ _ _ _), hG.low, fun i hi => (hG.row i hi).keep (hk _ ?_ ?_ _ _ _ _ _ _), hG.inc⟩, ⟨by omega, by omega⟩⟩
    · have := hG.low i hi; omega
    · have := hG.low i hi; omega
  · exact (((((B4.setCell (by show _ ≤ _ + 1 + 1; omega) _).setCell (by show _ ≤ _ + 1; omega) _).setCell (by show _ ≤ _ + 1; omega) _).setCell (by show _ ≤ _ + 1; omega) _).setCell (by show _ ≤ _ + 1; omega) _).setCell (by show _ ≤ _ + 1; omega) _

set_option maxHeartbeats 1000000 in
theorem eqRound_any (R1 R2 : Rnd) (w : World) (hs : R1.Small) (h1 : RdRnd w R1) (h2 : RdRnd w R2) (eQ : R2.nQ = R1.nQ) (eq : R2.q = R1.q) (eD : R2.nD = R1.nD) (ed : R2.d = R1.d) (et : R2.turn = R1.turn) (ef : R2.fresh = R1.fresh) (eS : R2.nS = R1.nS) (eL : R2.L = R1.L) (ez : R2.z = R1.z) :
    Calls Try.prog 12 #[.agg R1.cells, .agg R2.cells] w fun e w' => e = .returned (.bool true) ∧ Below w.heap.size w w' := by
  obtain ⟨aQ, nQ, cQ, q, aD, nD, cD, d, turn, fresh, aS, nS, cS, A, L, C, z⟩ := R1
  obtain ⟨aQ2, nQ2, cQ2, q2, aD2, nD2, cD2, d2, turn2, fresh2, aS2, nS2, cS2, A2, L2, C2, z2⟩ := R2
  dsimp only at eQ eq eD ed et ef eS eL ez
  subst eQ eq eD ed et ef eS eL ez
  have H1 : Hid (RdRnd w ⟨aQ, _, cQ, _, aD, _, cD, _, _, _, aS, _, cS, A, _, C, _⟩) := h1
  have H2 : Hid (RdRnd w ⟨aQ2, _, cQ2, _, aD2, _, cD2, _, _, _, aS2, _, cS2, A2, _, C2, _⟩) := h2
  have HS : Hid (Rnd.Small ⟨aQ, _, cQ, _, aD, _, cD, _, _, _, aS, _, cS, A, _, C, _⟩) := hs
  clear h1 h2 hs
  have HA : Hid (∀ o1 o2, Below w.heap.size w ((w.alloc o1).alloc o2)) := fun o1 o2 => (((Below.refl _ _).alloc (Nat.le_refl _) _).alloc (by simp) _)
  unfold Rnd.cells
  go_enter Try.func12, Try.ntmps12
  go_wp2_with fail
  refine (eqInts_any _ _ _ _ _ _ _ HS.out.q (H1.out.q.up (HA.out _ _)) (H2.out.q.up (HA.out _ _))).mono ?_
  rintro e w1 ⟨rfl, hS1⟩
  have c1 := fun (b : Nat) (i : Nat) => hS1.cell ⟨b, i, none⟩
  have b1 := (HA.out _ _).trans (hS1.below _)
  go_wp2_with fail
  refine (eqInts_any _ _ _ _ _ _ _ HS.out.d (H1.out.d.up b1) (H2.out.d.up b1)).mono ?_
  rintro e w2 ⟨rfl, hS2⟩
  have c2 := fun (b : Nat) (i : Nat) => hS2.cell ⟨b, i, none⟩
  have b2 := b1.trans (hS2.below _)
  go_wp2_with fail
  refine (eqIntss_any _ _ _ _ _ _ _ _ _ _ _ _ HS.out.s HS.out.l (H1.out.s.up b2) (H2.out.s.up b2) (fun i hi => (H1.out.z i hi).up b2) (fun i hi => (H2.out.z i hi).up b2)).mono ?_
  rintro e w3 ⟨rfl, hS3⟩
  have c3 := fun (b : Nat) (i : Nat) => hS3.cell ⟨b, i, none⟩
  have b3 := b2.trans (hS3.below _)
  go_wp2_with fail
  go_ret
  exact ⟨rfl, b3⟩
end Go.Proofs.Ytapmhpdcgghihaa
