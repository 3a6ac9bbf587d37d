/- The cells of an arena that comes in: the program's own copy of them. -/
import Derived.Test.YthkkogpegmmbdaaArData
namespace Go.Proofs.Ythkkogpegmmbdaa
open Go.RowKit
set_option linter.unusedVariables false

theorem CRow.setCell2 {w : World} {g n : Nat} {nx : Nat → Int} {dt : Nat → ByteArray} (h : CRow w g n nx dt) (k : Nat) (v : Int) (s : ByteArray) (hk : k < n) : CRow ((w.setCell ⟨g, k * 2, none⟩ (.int .i64 v)).setCell ⟨g, k * 2 + 1, none⟩ (.string s)) g n (fun i => if i = k then v else nx i) (fun i => if i = k then s else dt i) := by
  obtain ⟨arr, h1, h2, h3⟩ := h.setNext k v hk
  refine ⟨_, blk_set h1 _, by simpa using h2, fun i hi => ⟨?_, ?_⟩⟩
  · rw [Array.getElem?_setIfInBounds_ne (by omega)]
    exact (h3 i hi).1
  · by_cases e : i = k
    · subst e
      rw [Array.getElem?_setIfInBounds_self_of_lt (by omega)]; simp
    · rw [Array.getElem?_setIfInBounds_ne (by omega)]
      simp only [if_neg e]
      exact (h3 i hi).2

set_option maxHeartbeats 1000000 in
theorem cellsIn_any (a1 b1 : Option Addr) (n c1 d1 : Nat) (fr : Int) (nx : Nat → Int) (dt : Nat → ByteArray) (w : World) (hn : n ≤ 1000) (h1 : RdRow w a1 n fun i => .int .i64 (nx i)) (h2 : RdRow w b1 n fun i => .string (dt i)) :
    Calls Try.prog 27 #[.agg #[.slice a1 n c1, .slice b1 n d1, .int .i64 fr]] w fun e w' => ∃ g, e = .returned (.slice (some ⟨g, 0, none⟩) n n) ∧ w.heap.size ≤ g ∧ CRow w' g n nx dt ∧ Below w.heap.size w w' := by
  have mc := make_cells n (by omega)
  go_enter Try.func27, Try.ntmps27
  go_wp2_with fail
  clear mc
  have e1 : ∀ o, (w.alloc o).heap.size = w.heap.size + 1 := by intro o; simp
  go_loopw [11] (fun i wr => ∃ k : Nat, k ≤ n ∧ i = .int .i64 k ∧ CRow wr (w.heap.size + 1) n (fun i => if i < k then nx i else 0) (fun i => if i < k then dt i else ⟨#[]⟩) ∧ wr.heap[w.heap.size]? = some (.cells #[.slice a1 n c1, .slice b1 n d1, .int .i64 fr] 27 (0, 0)) ∧ Below w.heap.size w wr) (fun i _ => n - (intOf i).toNat)
  case atStart =>
    refine ⟨0, Nat.zero_le _, rfl, ?_, (blk_old _ (by rw [e1]; omega)).trans (blk_new w _), ((Below.refl _ _).alloc (Nat.le_refl _) _).alloc (by simp) _⟩
    have := blk_new (w.alloc (.cells #[.slice a1 n c1, .slice b1 n d1, .int .i64 fr] 27)) (.cells (zCells n) 54)
    rw [e1] at this
    exact (CRow.new this).ext (fun i hi => ⟨by simp, by simp⟩)
  case round =>
    obtain ⟨k, hk, rfl, hC, kR, hB⟩ := hrel
    by_cases hlt : k < n
    · obtain ⟨x1, x2, f1, f2⟩ := hC.there k hlt
      have hlt' : (k : Int) < n := by omega
      obtain ⟨g1, o1, rfl, p1⟩ := h1 k hlt
      obtain ⟨g2, o2, rfl, p2⟩ := h2 k hlt
      have y1 := (hB.cell (p := ⟨g1, o1 + k, none⟩) (cellLt p1)).trans p1
      have y2 := (hB.cell (p := ⟨g2, o2 + k, none⟩) (cellLt p2)).trans p2
      have cR := blk_cell kR
      clear h1 h2 p1 p2
      go_wp2_with fail
      go_region
      go_wp2_with fail
      go_roundw
      case rel =>
        refine ⟨k + 1, by omega, by go_num, ?_, ?_, ?_⟩
        · refine CRow.keep (w := (wr.setCell ⟨w.heap.size + 1, k * 2, none⟩ (.int .i64 (nx k))).setCell ⟨w.heap.size + 1, k * 2 + 1, none⟩ (.string (dt k))) ?_ rfl
          refine (hC.setCell2 k (nx k) (dt k) hlt).ext (fun i hi => ?_)
          by_cases e : i = k
          · subst e; simp
          · by_cases e2 : i < k
            · simp [e, e2, show i < k + 1 by omega]
            · simp [e, e2, show ¬ i < k + 1 by omega]
        · exact ((blk_set_ne (by omega) _).trans (blk_set_ne (by omega) _)).trans kR
        · exact ((hB.setCell (by show _ ≤ _ + 1; omega) _).setCell (by show _ ≤ _ + 1; omega) _).drew
      case measure => simp [intOf]; omega
    · obtain rfl : k = n := by omega
      go_wp2_with fail
      exact bodyPost_ret (v := .slice (some ⟨w.heap.size + 1, 0, none⟩) k k) (by simp [results, Try.results27, go_sem]) rfl ⟨_, rfl, by omega, hC.ext (fun i hi => ⟨by simp [hi], by simp [hi]⟩), hB⟩
end Go.Proofs.Ythkkogpegmmbdaa
