/- A round copied whole; two rounds held against each other. -/
import Derived.Test.YtaiodombphpcgaaRnTo
namespace Go.Proofs.Ytaiodombphpcgaa
open Go.RowKit
set_option linter.unusedVariables false
set_option linter.unusedSimpArgs false

theorem three_laidR {w w1 : World} {A B C : Obj} (h : Below (((w.alloc A).alloc B).alloc C).heap.size (((w.alloc A).alloc B).alloc C) w1) :
    w1.heap[w.heap.size]? = some A ∧ w1.heap[w.heap.size + 1]? = some B ∧ w1.heap[w.heap.size + 1 + 1]? = some C ∧ Below w.heap.size w w1 ∧ w.heap.size + 3 ≤ w1.heap.size := by
  have e1 : (w.alloc A).heap.size = w.heap.size + 1 := by simp
  have e2 : ((w.alloc A).alloc B).heap.size = w.heap.size + 1 + 1 := by simp
  have e3 : (((w.alloc A).alloc B).alloc C).heap.size = w.heap.size + 1 + 1 + 1 := by simp
  rw [e3] at h
  have b1 := blk_new w A
  have b2 := blk_new (w.alloc A) B
  rw [e1] at b2
  have b3 := blk_new ((w.alloc A).alloc B) C
  rw [e2] at b3
  refine ⟨?_, ?_, ?_, ?_, ?_⟩
  · rw [h.block _ (by omega), blk_old _ (by rw [e2]; omega), blk_old _ (by rw [e1]; omega)]; exact b1
  · rw [h.block _ (by omega), blk_old _ (by rw [e2]; omega)]; exact b2
  · rw [h.block _ (by omega)]; exact b3
  · exact ((((Below.refl _ _).alloc (Nat.le_refl _) _).alloc (by rw [e1]; omega) _).alloc (by rw [e2]; omega) _).trans (h.mono (by omega))
  · have := h.size
    omega
/-- the same round, in rows of its own -/
def Rnd.copy (R : Rnd) (gQ gD gS : Nat) (G : Nat → Nat) : Rnd :=
  ⟨some ⟨gQ, 0, none⟩, R.nQ, R.nQ, R.q, some ⟨gD, 0, none⟩, R.nD, R.nD, R.d, R.turn, R.fresh, some ⟨gS, 0, none⟩, R.nS, R.nS, fun i => some ⟨G i, 0, none⟩, R.L, R.L, R.z⟩
structure Copied (w : World) (R : Rnd) (gQ gD gS : Nat) (G : Nat → Nat) : Prop where
  q : RowTo gQ 2 R.nQ (fun i => .int .i64 (R.q i)) R.nQ w
  d : RowTo gD 2 R.nD (fun i => .int .i64 (R.d i)) R.nD w
  s : Rows2 w gS gS R.nS R.nS G R.L R.z
  lt : gQ < gD ∧ gD < gS
theorem Copied.rd {w : World} {R : Rnd} {gQ gD gS : Nat} {G : Nat → Nat} (h : Copied w R gQ gD gS G) : RdRnd w (R.copy gQ gD gS G) :=
  ⟨h.q.read, h.d.read, h.s.top.read, fun i hi => (h.s.row i hi).read⟩
theorem Copied.up {w w' : World} {R : Rnd} {gQ gD gS : Nat} {G : Nat → Nat} (h : Copied w R gQ gD gS G) (hb : Below w.heap.size w w') : Copied w' R gQ gD gS G :=
  ⟨h.q.keep (hb.block _ h.q.lt), h.d.keep (hb.block _ h.d.lt), h.s.keep hb, h.lt⟩
theorem copy_ok {R : Rnd} {gQ gD gS : Nat} {G : Nat → Nat} : (R.copy gQ gD gS G).Ok ↔ R.Ok := ⟨fun h => ⟨h.n, h.d, h.s, h.t, h.c⟩, fun h => ⟨h.n, h.d, h.s, h.t, h.c⟩⟩
theorem copy_fit {R : Rnd} {gQ gD gS : Nat} {G : Nat → Nat} (h : R.Fit) : (R.copy gQ gD gS G).Fit := ⟨h.q, h.d, h.s, h.l⟩
theorem small_fit {R : Rnd} (h : R.Small) : R.Fit := ⟨by have := h.q; unfold maxLen; omega, by have := h.d; unfold maxLen; omega, by have := h.s; unfold maxLen; omega, fun i hi => by have := h.l i hi; unfold maxLen; omega⟩

end Go.Proofs.Ytaiodombphpcgaa
