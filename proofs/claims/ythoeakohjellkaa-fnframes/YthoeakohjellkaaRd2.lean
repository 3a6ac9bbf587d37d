/- The reader's numbers, texts and frames. -/
import Derived.Test.YthoeakohjellkaaRd
namespace Go.Proofs.Ythoeakohjellkaa
open Go.RowKit
set_option linter.unusedVariables false

theorem near_any (g : Nat) (cv : Value) (low high : Int) (w : World) (h : Rd g cv w) (h0 : -1000 ≤ low) (h1 : low ≤ high) (h2 : high ≤ 1000) :
    Calls Try.prog 77 #[.pointer (some ⟨g, 0, none⟩), .int .i64 low, .int .i64 high] w fun e w' => ∃ x : Int, e = .returned (.int .i64 x) ∧ Rd g cv w' ∧ Kept g w w' := by
  go_enter Try.func77, Try.ntmps77
  go_wp2_with fail
  refine (below_any _ _ _ _ h (by omega) (by omega)).mono ?_
  rintro e w1 ⟨x, hx, rfl, hR1, hK1⟩
  by_cases hx0 : x = 0
  · have hq : ((x : Int) == 0) = true := by simp; omega
    go_wp2_with fail
    go_ret
    exact ⟨_, rfl, hR1, hK1⟩
  · have hq : ((x : Int) == 0) = false := by simp; omega
    by_cases hx1 : x = 1
    · have hq1 : ((x : Int) == 1) = true := by simp; omega
      go_wp2_with fail
      go_ret
      exact ⟨_, rfl, hR1, hK1⟩
    · have hq1 : ((x : Int) == 1) = false := by simp; omega
      have hd : (high - low + 1 == 0) = false := by simp; omega
      go_wp2_with fail
      refine (word_any _ _ _ hR1).mono ?_
      rintro e w2 ⟨y, hy, rfl, hR2, hK2⟩
      go_wp2_with fail
      go_ret
      exact ⟨_, rfl, hR2, hK1.trans hK2⟩

/-- an element of a row that was laid ahead of a call of the reader's -/
theorem row_at {g : Nat} {w w1 : World} {C : Array Value} {t : TypeId} (hg : g < w.heap.size) (hK : Kept g (w.alloc (.cells C t)) w1) (i : Nat) : w1.cell? ⟨w.heap.size, i, none⟩ = C[i]? := by
  have hz : (w.alloc (.cells C t)).heap.size = w.heap.size + 1 := by simp
  rw [World.cell?_of_block (w := w.alloc (.cells C t)) (a := ⟨w.heap.size, i, none⟩) (hK.block w.heap.size (by omega) (by omega))]
  exact World.cell?_alloc_mark w C t (0, 0) i
theorem kept_alloc {g : Nat} {w w1 : World} {o : Obj} (hK : Kept g (w.alloc o) w1) : Kept g w w1 := ((Kept.refl g w).alloc o).trans hK

theorem off_any (g : Nat) (cv : Value) (low high : Int) (w : World) (h : Rd g cv w) (h0 : -1000 ≤ low) (h1 : low ≤ high) (h2 : high ≤ 1000) :
    Calls Try.prog 65 #[.pointer (some ⟨g, 0, none⟩), .int .i64 low, .int .i64 high] w fun e w' => ∃ x : Int, e = .returned (.int .i64 x) ∧ Rd g cv w' ∧ Kept g w w' := by
  go_enter Try.func65, Try.ntmps65
  go_wp2_with fail
  refine (once_any _ _ _ _ h (by omega) (by omega)).mono ?_
  rintro e w1 ⟨x, rfl, hR1, hK1⟩
  cases x
  · go_wp2_with fail
    refine (near_any _ _ _ _ _ hR1 h0 h1 h2).mono ?_
    rintro e w2 ⟨y, rfl, hR2, hK2⟩
    go_wp2_with fail
    go_ret
    exact ⟨_, rfl, hR2, hK1.trans hK2⟩
  · go_wp2_with fail
    refine (below_any _ _ _ _ (hR1.alloc _) (by omega) (by omega)).mono ?_
    rintro e w2 ⟨y, hy, rfl, hR2, hK2⟩
    have hcl := row_at hR1.lt hK2 y
    have hK := hK1.trans (kept_alloc hK2)
    obtain ⟨z, hz⟩ : ∃ z, w2.cell? ⟨w1.heap.size, y, none⟩ = some (.int .i64 z) := by
      rw [hcl]
      rcases (by omega : y = 0 ∨ y = 1 ∨ y = 2 ∨ y = 3) with rfl | rfl | rfl | rfl <;> exact ⟨_, rfl⟩
    clear hcl hK2
    go_wp2_with fail
    go_ret
    exact ⟨_, rfl, hR2, hK⟩

theorem body_any (g : Nat) (cv : Value) (w : World) (h : Rd g cv w) :
    Calls Try.prog 49 #[.pointer (some ⟨g, 0, none⟩)] w fun e w' => ∃ b : ByteArray, b.size ≤ 40 ∧ e = .returned (.string b) ∧ Rd g cv w' ∧ Kept g w w' := by
  go_enter Try.func49, Try.ntmps49
  go_wp2_with fail
  refine (below_any _ _ _ _ (h.alloc _) (by omega) (by omega)).mono ?_
  rintro e w2 ⟨y, hy, rfl, hR2, hK2⟩
  have hcl := row_at h.lt hK2 y
  have hK := kept_alloc hK2
  obtain ⟨z, hz40, hz⟩ : ∃ z : Nat, z ≤ 40 ∧ w2.cell? ⟨w.heap.size, y, none⟩ = some (.int .i64 z) := by
    rw [hcl]
    rcases (by omega : y = 0 ∨ y = 1 ∨ y = 2 ∨ y = 3 ∨ y = 4 ∨ y = 5 ∨ y = 6 ∨ y = 7 ∨ y = 8 ∨ y = 9) with rfl | rfl | rfl | rfl | rfl | rfl | rfl | rfl | rfl | rfl
    · exact ⟨0, by omega, rfl⟩
    · exact ⟨1, by omega, rfl⟩
    · exact ⟨2, by omega, rfl⟩
    · exact ⟨5, by omega, rfl⟩
    · exact ⟨10, by omega, rfl⟩
    · exact ⟨11, by omega, rfl⟩
    · exact ⟨12, by omega, rfl⟩
    · exact ⟨21, by omega, rfl⟩
    · exact ⟨22, by omega, rfl⟩
    · exact ⟨40, by omega, rfl⟩
  clear hcl hK2
  have hz' : (z : Int) ≤ 40 := by omega
  go_wp2_with fail
  go_ret
  exact ⟨_, by rw [ByteArray.size_extract]; omega, rfl, hR2, hK⟩

/-- a block above the reader's, behind a step that keeps all but the reader's -/
theorem kblk {g k : Nat} {w w1 : World} {o : Obj} (hK : Kept g w w1) (h : w.heap[k]? = some o) (hk : k ≠ g) : w1.heap[k]? = some o := by
  rw [hK.block k (blk_lt h) hk]; exact h

theorem two_laid {g : Nat} {w w1 : World} {A B : Obj} (hg : g < w.heap.size) (hK : Kept g ((w.alloc A).alloc B) w1) :
    w1.heap[w.heap.size]? = some A ∧ w1.heap[w.heap.size + 1]? = some B ∧ Kept g w w1 := by
  have e1 : (w.alloc A).heap.size = w.heap.size + 1 := by simp
  refine ⟨kblk hK ((blk_old B (by omega)).trans (blk_new w A)) (by omega), ?_, kept_alloc (kept_alloc hK)⟩
  have := blk_new (w.alloc A) B
  rw [e1] at this
  exact kblk hK this (by omega)

set_option maxHeartbeats 2000000 in
theorem frame_any (g : Nat) (cv : Value) (w : World) (h : Rd g cv w) :
    Calls Try.prog 38 #[.pointer (some ⟨g, 0, none⟩)] w fun e w' => ∃ (k d s p : Int) (b : ByteArray), b.size ≤ 40 ∧ e = .returned (.agg #[.int .i64 k, .int .i64 d, .int .i64 s, .int .i64 p, .string b]) ∧ Rd g cv w' ∧ Kept g w w' := by
  have hg := h.lt
  go_enter Try.func38, Try.ntmps38
  go_wp2_with fail
  refine (below_any _ _ _ _ (h.alloc _) (by omega) (by omega)).mono ?_
  rintro e w1 ⟨x1, hx1, rfl, hR1, hK1⟩
  have r1 := kblk hK1 (blk_new w _) (by omega)
  have K1 := kept_alloc hK1
  clear hK1
  go_wp2_with fail
  refine (below_any _ _ _ _ hR1 (by omega) (by omega)).mono ?_
  rintro e w2 ⟨x2, hx2, rfl, hR2, hK2⟩
  have r2 := kblk hK2 r1 (by omega)
  have K2 := K1.trans hK2
  clear hK2 r1 K1 hR1
  go_wp2_with fail
  refine (body_any _ _ _ hR2).mono ?_
  rintro e w3 ⟨b, hb, rfl, hR3, hK3⟩
  have r3 := kblk hK3 r2 (by omega)
  have K3 := K2.trans hK3
  have z3 := K3.size
  clear hK3 r2 K2 hR2
  go_wp2_with fail
  refine (below_any _ _ _ _ ((hR3.alloc _).alloc _) (by omega) (by omega)).mono ?_
  rintro e w4 ⟨x4, hx4, rfl, hR4, hK4⟩
  obtain ⟨f4, a4, K4'⟩ := two_laid hR3.lt hK4
  have r4 := kblk K4' r3 (by omega)
  have K4 := K3.trans K4'
  have z4 := K4'.size
  have ca := blk_cell a4 x4
  have cf := blk_cell f4
  have ff := blk_free f4
  obtain ⟨d, hd⟩ : ∃ d, w4.cell? ⟨w3.heap.size + 1, x4, none⟩ = some (.int .i64 d) := by
    rw [ca]
    rcases (by omega : x4 = 0 ∨ x4 = 1 ∨ x4 = 2 ∨ x4 = 3 ∨ x4 = 4 ∨ x4 = 5) with rfl | rfl | rfl | rfl | rfl | rfl <;> exact ⟨_, rfl⟩
  have hgF := hR3.lt
  have hlR := blk_lt r3
  clear hK4 K4' a4 ca r3 K3
  go_wp2_with fail
  refine (below_any _ _ _ _ (hR4.setNew hgF _ _) (by omega) (by omega)).mono ?_
  rintro e w5 ⟨x5, hx5, rfl, hR5, hK5⟩
  have f5 := kblk hK5 (blk_set f4 (.int .i64 d)) (by omega)
  have r5 := kblk hK5 ((blk_set_ne (by omega) _).trans r4) (by omega)
  have K5 : Kept g w w5 := (K4.setNew z3 1 _).trans hK5
  clear hK5 cf ff f4 r4 K4 hd
  by_cases h12 : x5 = 12
  · have q12 : ((x5 : Int) == 12) = true := by simp; omega
    have cr := blk_cell r5
    have fr := blk_free r5
    go_wp2_with fail
    exact bodyPost_ret (v := .agg #[.int .i64 2, .int .i64 0, .int .i64 0, .int .i64 2, .string ⟨#[]⟩]) (by simp [results, Try.results38, go_sem, cr]) rfl ⟨_, _, _, _, _, by decide, rfl, ((((hR5.setNew hg 0 _).setNew hg 1 _).setNew hg 2 _).setNew hg 3 _).setNew hg 4 _, ((((K5.setNew (Nat.le_refl _) 0 _).setNew (Nat.le_refl _) 1 _).setNew (Nat.le_refl _) 2 _).setNew (Nat.le_refl _) 3 _).setNew (Nat.le_refl _) 4 _⟩
  · have q12 : ((x5 : Int) == 12) = false := by simp; omega
    by_cases h13 : x5 = 13
    · have q13 : ((x5 : Int) == 13) = true := by simp; omega
      have cr := blk_cell r5
      have fr := blk_free r5
      go_wp2_with fail
      exact bodyPost_ret (v := .agg #[.int .i64 3, .int .i64 0, .int .i64 0, .int .i64 2, .string ⟨#[]⟩]) (by simp [results, Try.results38, go_sem, cr]) rfl ⟨_, _, _, _, _, by decide, rfl, ((((hR5.setNew hg 0 _).setNew hg 1 _).setNew hg 2 _).setNew hg 3 _).setNew hg 4 _, ((((K5.setNew (Nat.le_refl _) 0 _).setNew (Nat.le_refl _) 1 _).setNew (Nat.le_refl _) 2 _).setNew (Nat.le_refl _) 3 _).setNew (Nat.le_refl _) 4 _⟩
    · have q13 : ((x5 : Int) == 13) = false := by simp; omega
      by_cases h14 : x5 = 14
      · have q14 : ((x5 : Int) == 14) = true := by simp; omega
        go_wp2_with fail
        refine (off_any _ _ _ _ _ hR5 (by omega) (by omega) (by omega)).mono ?_
        rintro e w6 ⟨y, rfl, hR6, hK6⟩
        have f6 := kblk hK6 f5 (by omega)
        have r6 := kblk hK6 r5 (by omega)
        have K6 := K5.trans hK6
        have cf := blk_cell f6
        have ff := blk_free f6
        have hne : w3.heap.size ≠ w.heap.size := by omega
        clear hK6 f5 r5 K5 hR5
        have cr := blk_cell r6
        have fr := blk_free r6
        go_wp2_with fail
        exact bodyPost_ret (v := .agg #[.int .i64 1, .int .i64 y, .int .i64 (1 + x1), .int .i64 x2, .string b]) (by simp [results, Try.results38, go_sem, cr]) rfl ⟨_, _, _, _, _, hb, rfl, (((((hR6.setNew hgF _ _).setNew hg 0 _).setNew hg 1 _).setNew hg 2 _).setNew hg 3 _).setNew hg 4 _, (((((K6.setNew z3 1 _).setNew (Nat.le_refl _) 0 _).setNew (Nat.le_refl _) 1 _).setNew (Nat.le_refl _) 2 _).setNew (Nat.le_refl _) 3 _).setNew (Nat.le_refl _) 4 _⟩
      · have q14 : ((x5 : Int) == 14) = false := by simp; omega
        by_cases h15 : x5 = 15
        · have q15 : ((x5 : Int) == 15) = true := by simp; omega
          go_wp2_with fail
          refine (off_any _ _ _ _ _ hR5 (by omega) (by omega) (by omega)).mono ?_
          rintro e w6 ⟨y, rfl, hR6, hK6⟩
          have f6 := kblk hK6 f5 (by omega)
          have r6 := kblk hK6 r5 (by omega)
          have K6 := K5.trans hK6
          have cf := blk_cell f6
          have ff := blk_free f6
          have hne : w3.heap.size ≠ w.heap.size := by omega
          clear hK6 f5 r5 K5 hR5
          have cr := blk_cell r6
          have fr := blk_free r6
          go_wp2_with fail
          exact bodyPost_ret (v := .agg #[.int .i64 1, .int .i64 d, .int .i64 (1 + x1), .int .i64 y, .string b]) (by simp [results, Try.results38, go_sem, cr]) rfl ⟨_, _, _, _, _, hb, rfl, (((((hR6.setNew hgF _ _).setNew hg 0 _).setNew hg 1 _).setNew hg 2 _).setNew hg 3 _).setNew hg 4 _, (((((K6.setNew z3 3 _).setNew (Nat.le_refl _) 0 _).setNew (Nat.le_refl _) 1 _).setNew (Nat.le_refl _) 2 _).setNew (Nat.le_refl _) 3 _).setNew (Nat.le_refl _) 4 _⟩
        · have q15 : ((x5 : Int) == 15) = false := by simp; omega
          have cf := blk_cell f5
          have cr := blk_cell r5
          have fr := blk_free r5
          go_wp2_with fail
          exact bodyPost_ret (v := .agg #[.int .i64 1, .int .i64 d, .int .i64 (1 + x1), .int .i64 x2, .string b]) (by simp [results, Try.results38, go_sem, cr]) rfl ⟨_, _, _, _, _, hb, rfl, ((((hR5.setNew hg 0 _).setNew hg 1 _).setNew hg 2 _).setNew hg 3 _).setNew hg 4 _, ((((K5.setNew (Nat.le_refl _) 0 _).setNew (Nat.le_refl _) 1 _).setNew (Nat.le_refl _) 2 _).setNew (Nat.le_refl _) 3 _).setNew (Nat.le_refl _) 4 _⟩

end Go.Proofs.Ythoeakohjellkaa
