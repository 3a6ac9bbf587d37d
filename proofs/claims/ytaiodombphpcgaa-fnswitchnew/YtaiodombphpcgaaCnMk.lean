/- Counts marked, the touched blocks told. -/
import Derived.Test.YtaiodombphpcgaaCnC
namespace Go.Proofs.Ytaiodombphpcgaa
open Go.RowKit
set_option linter.unusedVariables false
set_option linter.unusedSimpArgs false

def rowsT (N : Cnt) : List Nat := blkV N.aU N.nU ++ blkV N.aP N.nP
theorem OwnCn.tbl {w : World} {base : Nat} {N : Cnt} (h : OwnCn w base N) : ∀ x ∈ rowsT N, base ≤ x ∧ x < w.heap.size := by
  intro x hx
  rcases List.mem_append.1 hx with hx | hx
  · exact h.u.blk x hx
  · exact h.p.blk x hx
theorem OwnCn.boxOut {w : World} {base : Nat} {N : Cnt} (h : OwnCn w base N) {g : Nat} {cs : Array Value} {t : TypeId} (h2 : 2 ≠ t) (h4 : 4 ≠ t) (hk : w.heap[g]? = some (.cells cs t (0, 0))) : g ∉ rowsT N := by
  intro hx
  rcases List.mem_append.1 hx with hx | hx
  · exact VT.boxOut h.u h2 hk hx
  · exact VT.boxOut h.p h4 hk hx
end Go.Proofs.Ytaiodombphpcgaa
