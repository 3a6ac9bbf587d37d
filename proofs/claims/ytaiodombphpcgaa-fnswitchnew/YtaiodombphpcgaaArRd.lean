/- Slices that read as a row. -/
import Derived.Test.YtaiodombphpcgaaMarkB
namespace Go.Proofs.Ytaiodombphpcgaa
open Go.RowKit
set_option linter.unusedVariables false

/-- a slice of n elements whose cells read v -/
def RdRow (w : World) (a : Option Addr) (n : Nat) (v : Nat → Value) : Prop := ∀ i, i < n → ∃ g o, a = some ⟨g, o, none⟩ ∧ w.cell? ⟨g, o + i, none⟩ = some (v i)
theorem RdRow.up {w w2 : World} {a : Option Addr} {n : Nat} {v : Nat → Value} (h : RdRow w a n v) (hb : Below w.heap.size w w2) : RdRow w2 a n v := by
  intro i hi
  obtain ⟨g, o, ha, hc⟩ := h i hi
  exact ⟨g, o, ha, (hb.cell (p := ⟨g, o + i, none⟩) (cellLt hc)).trans hc⟩
theorem RdRow.touch {w w2 : World} {S : List Nat} {a : Option Addr} {n : Nat} {v : Nat → Value} (h : RdRow w a n v) (hb : Touch S w w2) (hS : ∀ b, a = some b → b.block ∉ S) : RdRow w2 a n v := by
  intro i hi
  obtain ⟨g, o, ha, hc⟩ := h i hi
  refine ⟨g, o, ha, ?_⟩
  rw [World.cell?_of_block (w := w) (a := ⟨g, o + i, none⟩) (hb.block g (cellLt hc) (hS _ ha))]
  exact hc
theorem RowTo.read {g n : Nat} {t : TypeId} {f : Nat → Value} {w : World} (h : RowTo g t n f n w) : RdRow w (some ⟨g, 0, none⟩) n f :=
  fun i hi => ⟨g, 0, rfl, by rw [Nat.zero_add]; exact h.at i hi⟩
theorem RdRow.nil (w : World) (a : Option Addr) (v : Nat → Value) : RdRow w a 0 v := fun i hi => by omega

end Go.Proofs.Ytaiodombphpcgaa
