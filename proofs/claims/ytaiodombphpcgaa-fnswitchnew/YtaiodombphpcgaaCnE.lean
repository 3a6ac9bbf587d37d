/- Both sides tell whether counts keep to their limits. -/
import Derived.Test.YtaiodombphpcgaaCnB
import Derived.Test.YtaiodombphpcgaaCnC
namespace Go.Proofs.Ytaiodombphpcgaa
open Go.RowKit
set_option linter.unusedVariables false
set_option linter.unusedSimpArgs false

theorem boxed2 {w wi : World} {A B : Array Value} {t s : TypeId} (h : Below (w.heap.size + 2) ((w.alloc (.cells A t)).alloc (.cells B s)) wi) : (∀ o, wi.cell? ⟨w.heap.size, o, none⟩ = A[o]?) ∧ ∀ o, wi.cell? ⟨w.heap.size + 1, o, none⟩ = B[o]? := by
  have k1 : wi.heap[w.heap.size]? = some (.cells A t (0, 0)) := (h.block _ (by omega)).trans ((blk_old _ (by simp)).trans (blk_new _ _))
  have k2 : wi.heap[w.heap.size + 1]? = some (.cells B s (0, 0)) := by
    refine (h.block _ (by omega)).trans ?_
    have := blk_new (w.alloc (.cells A t)) (.cells B s)
    simpa using this
  exact ⟨blk_cell k1, blk_cell k2⟩
theorem under2 {w wi : World} {o o' : Obj} (h : Below (w.heap.size + 2) ((w.alloc o).alloc o') wi) : Below w.heap.size w wi :=
  (((Below.refl _ _).alloc (Nat.le_refl _) o).alloc (by simp) o').trans (h.mono (by omega))
theorem upper2 {w wi : World} {o o' : Obj} (h : Below (w.heap.size + 2) ((w.alloc o).alloc o') wi) : w.heap.size + 2 ≤ wi.heap.size := by
  have := h.size
  simpa using this
theorem next2 {w wi wj : World} {o o' : Obj} (h : Below (w.heap.size + 2) ((w.alloc o).alloc o') wi) (k : Below wi.heap.size wi wj) : Below (w.heap.size + 2) ((w.alloc o).alloc o') wj :=
  h.trans (k.mono (upper2 h))
theorem lossyHeld_any (N : Cnt) (w : World) :
    Calls Try.prog 95 #[.agg #[], .agg N.cells] w fun e w' => e = .returned (.int .i64 N.lo) ∧ Below w.heap.size w w' := by
  have HA : Hid (∀ o o', Below w.heap.size w ((w.alloc o).alloc o')) := fun o o' => ((Below.refl _ _).alloc (Nat.le_refl _) _).alloc (by simp) _
  unfold Cnt.cells
  go_enter Try.func95, Try.ntmps95
  go_wp2_with fail
  go_ret
  exact ⟨rfl, HA.out _ _⟩
theorem portHeld_any (N : Cnt) (i : Nat) (w : World) (hf : N.Fit) (hi : i < N.nU) (h : RdCnt w N) :
    Calls Try.prog 98 #[.agg #[.int .i64 i], .agg N.cells] w fun e w' => e = .returned (.int .i64 (N.u i)) ∧ Below w.heap.size w w' := by
  have HA : Hid (∀ o o', Below w.heap.size w ((w.alloc o).alloc o')) := fun o o' => ((Below.refl _ _).alloc (Nat.le_refl _) _).alloc (by simp) _
  obtain ⟨aU, nU, cU, u, lo, aP, nP, cP, p⟩ := N
  have hi' : i < nU := hi
  have hi2 : (i : Int) < nU := by omega
  have hU : RdRow w aU nU fun i => .int .i64 (u i) := h.u
  have hm : nU ≤ maxLen := hf.u
  obtain ⟨g, o, rfl, hc⟩ := hU i hi'
  have hc2 : ∀ ob ob', ((w.alloc ob).alloc ob').cell? ⟨g, o + i, none⟩ = some (.int .i64 (u i)) := fun ob ob' => ((HA.out ob ob').cell (p := ⟨g, o + i, none⟩) (cellLt hc)).trans hc
  clear h hf hi hU hc
  unfold Cnt.cells
  go_enter Try.func98, Try.ntmps98
  go_wp2_with fail
  go_ret
  exact ⟨rfl, HA.out _ _⟩
end Go.Proofs.Ytaiodombphpcgaa
