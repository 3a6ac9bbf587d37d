/- A box that a call made first: what it holds stays, whatever is laid above it. -/
import Derived.Test.YtaiodombphpcgaaMem
namespace Go.Proofs.Ytaiodombphpcgaa
open Go.RowKit
set_option linter.unusedVariables false

theorem bcell {W w1 : World} (hb : Below W.heap.size W w1) : (∀ b o, b < W.heap.size → w1.cell? ⟨b, o, none⟩ = W.cell? ⟨b, o, none⟩) ∧ (∀ b o, b < W.heap.size → w1.frozen? ⟨b, o, none⟩ = W.frozen? ⟨b, o, none⟩) :=
  ⟨fun b o h => hb.cell (p := ⟨b, o, none⟩) h, fun b o h => hb.frozen (p := ⟨b, o, none⟩) h⟩

theorem boxed {w wi : World} {C : Array Value} {t : TypeId} (h : Below (w.heap.size + 1) (w.alloc (.cells C t)) wi) : ∀ o, wi.cell? ⟨w.heap.size, o, none⟩ = C[o]? := by
  intro o
  rw [h.cell (p := ⟨w.heap.size, o, none⟩) (by show w.heap.size < _; omega)]
  exact World.cell?_alloc_mark w C t (0, 0) o
theorem under {w wi : World} {o : Obj} (h : Below (w.heap.size + 1) (w.alloc o) wi) : Below w.heap.size w wi :=
  ((Below.refl _ _).alloc (Nat.le_refl _) _).trans (h.mono (by omega))
theorem upper {w wi : World} {o : Obj} (h : Below (w.heap.size + 1) (w.alloc o) wi) : w.heap.size + 1 ≤ wi.heap.size := by
  have := h.size
  simpa using this
theorem first {w wi : World} {o : Obj} (h : Below (w.alloc o).heap.size (w.alloc o) wi) : Below (w.heap.size + 1) (w.alloc o) wi :=
  h.mono (by simp)
theorem next {w wi wj : World} {o : Obj} (h : Below (w.heap.size + 1) (w.alloc o) wi) (k : Below wi.heap.size wi wj) : Below (w.heap.size + 1) (w.alloc o) wj :=
  h.trans (k.mono (upper h))

end Go.Proofs.Ytaiodombphpcgaa
