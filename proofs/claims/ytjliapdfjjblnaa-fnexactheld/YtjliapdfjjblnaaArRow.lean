/- Slices of cells, and rows that a call owns. -/
import Derived.Test.YtjliapdfjjblnaaArOf
namespace Go.Proofs.Ytjliapdfjjblnaa
open Go.RowKit
set_option linter.unusedVariables false

theorem infoCell : (Try.prog.info? 57).map (fun i => (i.zero, i.size, i.bytes)) = some (some (.agg #[.int .i64 0, .string ⟨#[]⟩]), 2, 24) := by kernel_rfl
def zCells (n : Nat) : Array Value := madeCells #[.int .i64 0, .string ⟨#[]⟩] (n * 2)
theorem make_cells (n : Nat) (hn : n ≤ 1000) (w : World) : (Instr.makeSlice 50 (.int .i64 (n : Int)) (.int .i64 (n : Int))).run Try.prog w = .ok (.slice (some ⟨w.heap.size, 0, none⟩) n n) (w.alloc (.cells (zCells n) 57)) := by
  obtain ⟨i0, hi, hz0, hz1, hz2⟩ := info_parts infoCell
  have := run_make (P := Try.prog) w 50 57 i0 (.agg #[.int .i64 0, .string ⟨#[]⟩]) Try.underlying50 hi hz0 .i64 .i64 (n : Int) (n : Int) (by omega) (by omega) (by rw [hz2]; omega) (by omega)
  rw [this, hz1]
  simp [zCells, Value.cells]
/-- a block that is a slice of n cells, whole -/
def CRow (w : World) (g n : Nat) (nx : Nat → Int) (dt : Nat → ByteArray) : Prop :=
  ∃ arr : Array Value, w.heap[g]? = some (.cells arr 57 (0, 0)) ∧ arr.size = n * 2 ∧ ∀ i, i < n → arr[i * 2]? = some (.int .i64 (nx i)) ∧ arr[i * 2 + 1]? = some (.string (dt i))
theorem CRow.lt {w : World} {g n : Nat} {nx : Nat → Int} {dt : Nat → ByteArray} (h : CRow w g n nx dt) : g < w.heap.size := by
  obtain ⟨arr, hb, _⟩ := h; exact blk_lt hb
theorem CRow.new {w : World} {g n : Nat} (h : w.heap[g]? = some (.cells (zCells n) 57 (0, 0))) : CRow w g n (fun _ => 0) (fun _ => ⟨#[]⟩) := by
  refine ⟨_, h, by simp [zCells, size_madeCells], fun i hi => ?_⟩
  unfold zCells madeCells
  constructor
  · simp [show i * 2 < n * 2 by omega]
  · simp [show i * 2 + 1 < n * 2 by omega]
theorem CRow.keep {w w' : World} {g n : Nat} {nx : Nat → Int} {dt : Nat → ByteArray} (h : CRow w g n nx dt) (hb : w'.heap[g]? = w.heap[g]?) : CRow w' g n nx dt := by
  obtain ⟨arr, h1, h2, h3⟩ := h
  exact ⟨arr, hb.trans h1, h2, h3⟩
theorem CRow.ext {w : World} {g n : Nat} {nx nx' : Nat → Int} {dt dt' : Nat → ByteArray} (h : CRow w g n nx dt) (e : ∀ i, i < n → nx i = nx' i ∧ dt i = dt' i) : CRow w g n nx' dt' := by
  obtain ⟨arr, h1, h2, h3⟩ := h
  exact ⟨arr, h1, h2, fun i hi => by rw [← (e i hi).1, ← (e i hi).2]; exact h3 i hi⟩
theorem CRow.setNext {w : World} {g n : Nat} {nx : Nat → Int} {dt : Nat → ByteArray} (h : CRow w g n nx dt) (k : Nat) (v : Int) (hk : k < n) : CRow (w.setCell ⟨g, k * 2, none⟩ (.int .i64 v)) g n (fun i => if i = k then v else nx i) dt := by
  obtain ⟨arr, h1, h2, h3⟩ := h
  refine ⟨_, blk_set h1 _, by simpa using h2, fun i hi => ⟨?_, ?_⟩⟩
  · by_cases e : i = k
    · subst e
      rw [Array.getElem?_setIfInBounds_self_of_lt (by omega)]; simp
    · rw [Array.getElem?_setIfInBounds_ne (by omega)]
      simp only [if_neg e]
      exact (h3 i hi).1
  · rw [Array.getElem?_setIfInBounds_ne (by omega)]
    exact (h3 i hi).2
theorem CRow.there {w : World} {g n : Nat} {nx : Nat → Int} {dt : Nat → ByteArray} (h : CRow w g n nx dt) (k : Nat) (hk : k < n) : w.cell? ⟨g, k * 2, none⟩ = some (.int .i64 (nx k)) ∧ w.cell? ⟨g, k * 2 + 1, none⟩ = some (.string (dt k)) ∧ w.frozen? ⟨g, k * 2, none⟩ = false ∧ w.frozen? ⟨g, k * 2 + 1, none⟩ = false := by
  obtain ⟨arr, h1, h2, h3⟩ := h
  exact ⟨(blk_cell h1 _).trans (h3 k hk).1, (blk_cell h1 _).trans (h3 k hk).2, blk_free h1 _, blk_free h1 _⟩
theorem CRow.cells {w : World} {g n : Nat} {nx : Nat → Int} {dt : Nat → ByteArray} (h : CRow w g n nx dt) : CellRow w g 0 n nx dt := by
  intro i hi
  rw [Nat.zero_add]
  exact ⟨(h.there i hi).1, (h.there i hi).2.1⟩
theorem own_forms {w : World} {base size n : Nat} {e : TypeId} {v : Value} {xs : List Value} (h : w.ownsRow base e size v n xs) : (v = .slice none 0 0 ∧ n = 0) ∨ ∃ g cap, v = .slice (some ⟨g, 0, none⟩) n cap := by
  rcases h.2 with h0 | ⟨g, cap, _, hv, _⟩
  · exact Or.inl h0
  · exact Or.inr ⟨g, cap, hv⟩
theorem own_ne {w : World} {base n j : Nat} {e t : TypeId} {v : Value} {xs : List Value} {cs : Array Value} {fr : Nat × Nat} (h : w.ownsRow base e 1 v n xs) (hj : w.heap[j]? = some (.cells cs t fr)) (ht : e ≠ t) : v.ownBlock ≠ some j := by
  intro hv
  rcases h.2 with ⟨rfl, _⟩ | ⟨g, cap, cur, rfl, _, hb, _⟩
  · cases hv
  · simp only [Value.ownBlock, Option.some.injEq] at hv
    subst hv
    rw [hb] at hj
    cases hj
    exact ht rfl
theorem own_ge {w : World} {base n g cap : Nat} {e : TypeId} {xs : List Value} (h : w.ownsRow base e 1 (.slice (some ⟨g, 0, none⟩) n cap) n xs) : base ≤ g := by
  obtain ⟨hl, h | ⟨g', cap', cur, hv, hge, _⟩⟩ := h
  · cases h.1
  · cases hv; exact hge
theorem RowTo.setAt {g n : Nat} {t : TypeId} {f : Nat → Value} {w : World} (h : RowTo g t n f n w) (j : Nat) (v : Value) (hj : j < n) : RowTo g t n (fun i => if i = j then v else f i) n (w.setCell ⟨g, j, none⟩ v) := by
  obtain ⟨arr, hb, hn, hc⟩ := h
  refine ⟨_, blk_set hb _, by simpa using hn, fun i hi => ?_⟩
  by_cases e : i = j
  · subst e
    rw [Array.getElem?_setIfInBounds_self_of_lt (by omega)]; simp
  · rw [Array.getElem?_setIfInBounds_ne (by omega)]
    simp only [if_neg e]
    exact hc i hi
theorem RowTo.ext {g n : Nat} {t : TypeId} {f f' : Nat → Value} {w : World} (h : RowTo g t n f n w) (e : ∀ i, i < n → f i = f' i) : RowTo g t n f' n w := by
  obtain ⟨arr, hb, hn, hc⟩ := h
  exact ⟨arr, hb, hn, fun i hi => by rw [← e i hi]; exact hc i hi⟩
theorem one_int (x : Int) : ∀ u ∈ ([.int .i64 x] : List Value), u.oneCell' = true := by simp [Value.oneCell']
end Go.Proofs.Ytjliapdfjjblnaa
