/- Both sides tell whether counts keep to their limits. -/
import Derived.Test.YtclibohnmjkliaaCnB
import Derived.Test.YtclibohnmjkliaaCnC
namespace Go.Proofs.Ytclibohnmjkliaa
open Go.RowKit
set_option linter.unusedVariables false
set_option linter.unusedSimpArgs false

theorem boxed2 {w wi : World} {A B : Array Value} {t s : TypeId} (h : Below (w.heap.size + 2) ((w.alloc (.cells A t)).alloc (.cells B s)) wi) : (∀ o, wi.cell? ⟨w.heap.size, o, none⟩ = A[o]?) ∧ ∀ o, wi.cell? ⟨w.heap.size + 1, o, none⟩ = B[o]? := by
  have k1 : wi.heap[w.heap.size]? = some (.cells A t (0, 0)) := (h.block _ (by omega)).trans ((blk_old _ (by simp)).trans (blk_new _ _))
  have k2 : wi.heap[w.heap.size + 1]? = some (.cells B s (0, 0)) := by
    refine (h.block _ (by omega)).trans ?_
    have := blk_new (w.alloc (.cells A t)) (.cells B s)
    simpa using this
  exact ⟨blk_cell k1, blk_cell k2⟩
theorem under2 {w wi : World} {o o' : Obj} (h : Below (w.heap.size + 2) ((w.alloc o).alloc o') wi) : Below w.heap.size w wi :=
  (((Below.refl _ _).alloc (Nat.le_refl _) o).alloc (by simp) o').trans (h.mono (by omega))
theorem upper2 {w wi : World} {o o' : Obj} (h : Below (w.heap.size + 2) ((w.alloc o).alloc o') wi) : w.heap.size + 2 ≤ wi.heap.size := by
  have := h.size
  simpa using this
theorem next2 {w wi wj : World} {o o' : Obj} (h : Below (w.heap.size + 2) ((w.alloc o).alloc o') wi) (k : Below wi.heap.size wi wj) : Below (w.heap.size + 2) ((w.alloc o).alloc o') wj :=
  h.trans (k.mono (upper2 h))
end Go.Proofs.Ytclibohnmjkliaa
