/- The reader's numbers, texts and frames. -/
import Derived.Test.YtaiodombphpcgaaRd
namespace Go.Proofs.Ytaiodombphpcgaa
open Go.RowKit
set_option linter.unusedVariables false

theorem near_any (g : Nat) (cv : Value) (low high : Int) (w : World) (h : Rd g cv w) (h0 : -1000 ≤ low) (h1 : low ≤ high) (h2 : high ≤ 1000) :
    Calls Try.prog 51 #[.pointer (some ⟨g, 0, none⟩), .int .i64 low, .int .i64 high] w fun e w' => ∃ x : Int, e = .returned (.int .i64 x) ∧ Rd g cv w' ∧ Kept g w w' := by
  go_enter Try.func51, Try.ntmps51
  go_wp2_with fail
  refine (below_any _ _ _ _ h (by omega) (by omega)).mono ?_
  rintro e w1 ⟨x, hx, rfl, hR1, hK1⟩
  by_cases hx0 : x = 0
  · have hq : ((x : Int) == 0) = true := by simp; omega
    go_wp2_with fail
    go_ret
    exact ⟨_, rfl, hR1, hK1⟩
  · have hq : ((x : Int) == 0) = false := by simp; omega
    by_cases hx1 : x = 1
    · have hq1 : ((x : Int) == 1) = true := by simp; omega
      go_wp2_with fail
      go_ret
      exact ⟨_, rfl, hR1, hK1⟩
    · have hq1 : ((x : Int) == 1) = false := by simp; omega
      have hd : (high - low + 1 == 0) = false := by simp; omega
      go_wp2_with fail
      refine (word_any _ _ _ hR1).mono ?_
      rintro e w2 ⟨y, hy, rfl, hR2, hK2⟩
      go_wp2_with fail
      go_ret
      exact ⟨_, rfl, hR2, hK1.trans hK2⟩

/-- an element of a row that was laid ahead of a call of the reader's -/
theorem row_at {g : Nat} {w w1 : World} {C : Array Value} {t : TypeId} (hg : g < w.heap.size) (hK : Kept g (w.alloc (.cells C t)) w1) (i : Nat) : w1.cell? ⟨w.heap.size, i, none⟩ = C[i]? := by
  have hz : (w.alloc (.cells C t)).heap.size = w.heap.size + 1 := by simp
  rw [World.cell?_of_block (w := w.alloc (.cells C t)) (a := ⟨w.heap.size, i, none⟩) (hK.block w.heap.size (by omega) (by omega))]
  exact World.cell?_alloc_mark w C t (0, 0) i
theorem kept_alloc {g : Nat} {w w1 : World} {o : Obj} (hK : Kept g (w.alloc o) w1) : Kept g w w1 := ((Kept.refl g w).alloc o).trans hK

theorem off_any (g : Nat) (cv : Value) (low high : Int) (w : World) (h : Rd g cv w) (h0 : -1000 ≤ low) (h1 : low ≤ high) (h2 : high ≤ 1000) :
    Calls Try.prog 33 #[.pointer (some ⟨g, 0, none⟩), .int .i64 low, .int .i64 high] w fun e w' => ∃ x : Int, e = .returned (.int .i64 x) ∧ Rd g cv w' ∧ Kept g w w' := by
  go_enter Try.func33, Try.ntmps33
  go_wp2_with fail
  refine (once_any _ _ _ _ h (by omega) (by omega)).mono ?_
  rintro e w1 ⟨x, rfl, hR1, hK1⟩
  cases x
  · go_wp2_with fail
    refine (near_any _ _ _ _ _ hR1 h0 h1 h2).mono ?_
    rintro e w2 ⟨y, rfl, hR2, hK2⟩
    go_wp2_with fail
    go_ret
    exact ⟨_, rfl, hR2, hK1.trans hK2⟩
  · go_wp2_with fail
    refine (below_any _ _ _ _ (hR1.alloc _) (by omega) (by omega)).mono ?_
    rintro e w2 ⟨y, hy, rfl, hR2, hK2⟩
    have hcl := row_at hR1.lt hK2 y
    have hK := hK1.trans (kept_alloc hK2)
    obtain ⟨z, hz⟩ : ∃ z, w2.cell? ⟨w1.heap.size, y, none⟩ = some (.int .i64 z) := by
      rw [hcl]
      rcases (by omega : y = 0 ∨ y = 1 ∨ y = 2 ∨ y = 3) with rfl | rfl | rfl | rfl <;> exact ⟨_, rfl⟩
    clear hcl hK2
    go_wp2_with fail
    go_ret
    exact ⟨_, rfl, hR2, hK⟩

/-- a block above the reader's, behind a step that keeps all but the reader's -/
theorem kblk {g k : Nat} {w w1 : World} {o : Obj} (hK : Kept g w w1) (h : w.heap[k]? = some o) (hk : k ≠ g) : w1.heap[k]? = some o := by
  rw [hK.block k (blk_lt h) hk]; exact h

theorem two_laid {g : Nat} {w w1 : World} {A B : Obj} (hg : g < w.heap.size) (hK : Kept g ((w.alloc A).alloc B) w1) :
    w1.heap[w.heap.size]? = some A ∧ w1.heap[w.heap.size + 1]? = some B ∧ Kept g w w1 := by
  have e1 : (w.alloc A).heap.size = w.heap.size + 1 := by simp
  refine ⟨kblk hK ((blk_old B (by omega)).trans (blk_new w A)) (by omega), ?_, kept_alloc (kept_alloc hK)⟩
  have := blk_new (w.alloc A) B
  rw [e1] at this
  exact kblk hK this (by omega)

end Go.Proofs.Ytaiodombphpcgaa
