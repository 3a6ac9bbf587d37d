/- What the exact laws on rounds do first: measure a round, copy it, hold two against each other. -/
import Derived.Test.YtaiodombphpcgaaRn
import Derived.Test.YtaiodombphpcgaaZs
namespace Go.Proofs.Ytaiodombphpcgaa
open Go.RowKit
set_option linter.unusedVariables false
set_option linter.unusedSimpArgs false

structure Rnd.Small (R : Rnd) : Prop where
  q : R.nQ ≤ 1048576
  d : R.nD ≤ 1048576
  s : R.nS ≤ 1048576
  l : ∀ i, i < R.nS → R.L i ≤ 1048576
theorem info22 : (Try.prog.info? 28).map (fun i => (i.zero, i.size, i.bytes)) = some (some (.slice none 0 0), 1, 24) := by kernel_rfl
def zSls (n : Nat) : Array Value := madeCells #[.slice none 0 0] n
theorem make_sls (n : Nat) (hn : n ≤ 1048576) (w : World) : (Instr.makeSlice 47 (.int .i64 (n : Int)) (.int .i64 (n : Int))).run Try.prog w = .ok (.slice (some ⟨w.heap.size, 0, none⟩) n n) (w.alloc (.cells (zSls n) 28)) := by
  obtain ⟨i0, hi, hz0, hz1, hz2⟩ := info_parts info22
  have := run_make (P := Try.prog) w 47 28 i0 (.slice none 0 0) Try.underlying47 hi hz0 .i64 .i64 (n : Int) (n : Int) (by omega) (by omega) (by rw [hz2]; omega) (by omega)
  rw [this, hz1]
  simp [zSls, Value.cells]
theorem zSls_row {w : World} {g n : Nat} (h : w.heap[g]? = some (.cells (zSls n) 28 (0, 0))) : RowTo g 28 n (fun _ => .slice none 0 0) n w :=
  ⟨_, h, by simp [zSls, size_madeCells], fun i hi => made_at _ n i hi⟩
theorem RowTo.ext {g n k : Nat} {t : TypeId} {f f' : Nat → Value} {w : World} (h : RowTo g t n f k w) (e : ∀ i, i < k → f i = f' i) : RowTo g t n f' k w := by
  obtain ⟨arr, h1, h2, h3⟩ := h
  exact ⟨arr, h1, h2, fun i hi => by rw [← e i hi]; exact h3 i hi⟩
/-- rows of numbers in new blocks, the slices that lead to them in block g -/
structure Rows2 (w : World) (lo g n k : Nat) (G : Nat → Nat) (L : Nat → Nat) (z : Nat → Nat → Int) : Prop where
  top : RowTo g 28 n (fun i => .slice (some ⟨G i, 0, none⟩) (L i) (L i)) k w
  low : ∀ i, i < k → lo < G i
  row : ∀ i, i < k → RowTo (G i) 2 (L i) (fun j => .int .i64 (z i j)) (L i) w
  inc : ∀ i j, i < j → j < k → G i < G j
theorem Rows2.keep {w w' : World} {lo g n k : Nat} {G : Nat → Nat} {L : Nat → Nat} {z : Nat → Nat → Int} (h : Rows2 w lo g n k G L z) (hb : Below w.heap.size w w') : Rows2 w' lo g n k G L z :=
  ⟨h.top.keep (hb.block _ h.top.lt), h.low, fun i hi => (h.row i hi).keep (hb.block _ (h.row i hi).lt), h.inc⟩
theorem Rows2.step {w w1 : World} {lo g n k : Nat} {G : Nat → Nat} {L : Nat → Nat} {z : Nat → Nat → Int} (h : Rows2 w lo g n k G L z) (hk : k < n) (hlo : lo < w.heap.size) (hg : g ≤ lo) (hb : Below w.heap.size w w1) (hr : RowTo w.heap.size 2 (L k) (fun j => .int .i64 (z k j)) (L k) w1) :
    Rows2 (w1.setCell ⟨g, k, none⟩ (.slice (some ⟨w.heap.size, 0, none⟩) (L k) (L k))) lo g n (k + 1) (fun i => if i = k then w.heap.size else G i) L z := by
  have h1 := h.keep hb
  have hgl : ∀ i, i < k → G i < w.heap.size := fun i hi => (h.row i hi).lt
  refine ⟨?_, fun i hi => ?_, fun i hi => ?_, fun i j hij hj => ?_⟩
  · have e : RowTo g 28 n (fun i => .slice (some ⟨if i = k then w.heap.size else G i, 0, none⟩) (L i) (L i)) k w1 := h1.top.ext (fun i hi => by rw [if_neg (by omega)])
    have s := e.step hk
    simp only [if_true] at s
    exact s
  · by_cases e : i = k
    · simp only [e, if_true]; exact hlo
    · simp only [if_neg e]; exact h.low i (by omega)
  · by_cases e : i = k
    · subst e
      simp only [if_true]
      exact hr.keep (blk_set_ne (by omega) _)
    · simp only [if_neg e]
      have := h.low i (by omega)
      exact (h1.row i (by omega)).keep (blk_set_ne (by omega) _)
  · by_cases e : j = k
    · have e2 : ¬ i = k := by omega
      simp only [e, if_true, if_neg e2]
      exact hgl i (by omega)
    · have e2 : ¬ i = k := by omega
      simp only [if_neg e, if_neg e2]
      exact h.inc i j hij (by omega)

end Go.Proofs.Ytaiodombphpcgaa
