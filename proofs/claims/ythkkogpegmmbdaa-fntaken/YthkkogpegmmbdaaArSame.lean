/- Lists and arenas held against each other, as the laws on drawn arenas do. -/
import Derived.Test.YthkkogpegmmbdaaArVr
namespace Go.Proofs.Ythkkogpegmmbdaa
open Go.RowKit
set_option linter.unusedVariables false
set_option linter.unusedSimpArgs false

theorem sameInts_any (a1 a2 : Option Addr) (n c1 c2 : Nat) (f : Nat → Int) (w : World) (hn : n ≤ 1048576) (h1 : RdRow w a1 n fun i => .int .i64 (f i)) (h2 : RdRow w a2 n fun i => .int .i64 (f i)) :
    Calls Try.prog 17 #[.slice a1 n c1, .slice a2 n c2] w fun e w' => e = .returned (.bool true) ∧ Same w w' := by
  go_enter Try.func17, Try.ntmps17
  go_wp2_with fail
  go_loopw [5] (fun i wr => ∃ k : Nat, k ≤ n ∧ i = .int .i64 k ∧ Same w wr) (fun i _ => n - (intOf i).toNat)
  case atStart => exact ⟨0, Nat.zero_le _, rfl, Same.refl _⟩
  case round =>
    obtain ⟨k, hk, rfl, hS⟩ := hrel
    by_cases hlt : k < n
    · obtain ⟨g1, o1, rfl, e1⟩ := h1 k hlt
      obtain ⟨g2, o2, rfl, e2⟩ := h2 k hlt
      rw [← hS.cell] at e1 e2
      clear h1 h2
      have hlt' : (k : Int) < n := by omega
      go_wp2_with fail
      go_quiet (fail)
      go_wp2_with fail
      go_roundw
      case rel => exact ⟨k + 1, by omega, by go_num, hS.drewN _⟩
      case measure => simp [intOf]; omega
    · obtain rfl : k = n := by omega
      go_wp2_with fail
      go_ret
      exact ⟨rfl, hS⟩

theorem two_laidB {w w1 : World} {A B : Obj} (h : Below ((w.alloc A).alloc B).heap.size ((w.alloc A).alloc B) w1) :
    w1.heap[w.heap.size]? = some A ∧ w1.heap[w.heap.size + 1]? = some B ∧ Below w.heap.size w w1 ∧ w.heap.size + 2 ≤ w1.heap.size := by
  have e1 : (w.alloc A).heap.size = w.heap.size + 1 := by simp
  have e2 : ((w.alloc A).alloc B).heap.size = w.heap.size + 1 + 1 := by simp
  rw [e2] at h
  have b1 := blk_new w A
  have b2 := blk_new (w.alloc A) B
  rw [e1] at b2
  refine ⟨?_, ?_, ?_, ?_⟩
  · rw [h.block _ (by omega), blk_old _ (by rw [e1]; omega)]; exact b1
  · rw [h.block _ (by omega)]; exact b2
  · exact (((Below.refl _ _).alloc (Nat.le_refl _) _).alloc (by rw [e1]; omega) _).trans (h.mono (by omega))
  · have := h.size
    omega
theorem sameArena_any (a1 a2 b1 b2 : Option Addr) (n m c1 c2 d1 d2 : Nat) (fr : Int) (f : Nat → Int) (u : Nat → ByteArray) (w : World) (hn : n ≤ 1048576) (hm : m ≤ 1048576)
    (h1 : RdRow w a1 n fun i => .int .i64 (f i)) (h2 : RdRow w a2 n fun i => .int .i64 (f i)) (k1 : RdRow w b1 m fun i => .string (u i)) (k2 : RdRow w b2 m fun i => .string (u i)) :
    Calls Try.prog 10 #[.agg #[.slice a1 n c1, .slice b1 m d1, .int .i64 fr], .agg #[.slice a2 n c2, .slice b2 m d2, .int .i64 fr]] w fun e w' => e = .returned (.bool true) ∧ Below w.heap.size w w' := by
  have HA : Hid (∀ o1 o2, Below w.heap.size w ((w.alloc o1).alloc o2)) := fun o1 o2 => (((Below.refl _ _).alloc (Nat.le_refl _) _).alloc (by simp) _)
  have K1 : Hid (RdRow w b1 m fun i => .string (u i)) := k1
  have K2 : Hid (RdRow w b2 m fun i => .string (u i)) := k2
  clear k1 k2
  go_enter Try.func10, Try.ntmps10
  go_wp2_with fail
  refine (sameInts_any _ _ _ _ _ f _ hn (h1.up (HA.out _ _)) (h2.up (HA.out _ _))).mono ?_
  rintro e w1 ⟨rfl, hS1⟩
  obtain ⟨kA, kB, B1, z1⟩ := two_laidB (hS1.below _)
  have cA := blk_cell kA
  have cB := blk_cell kB
  clear hS1 h1 h2
  go_wp2_with fail
  go_loopw [5] (fun i wr => ∃ k : Nat, k ≤ m ∧ i = .int .i64 k ∧ Same w1 wr) (fun i _ => m - (intOf i).toNat)
  case atStart => exact ⟨0, Nat.zero_le _, rfl, Same.refl _⟩
  case round =>
    obtain ⟨k, hk, rfl, hS⟩ := hrel
    have cA' : ∀ o, wr.cell? ⟨w.heap.size, o, none⟩ = _ := fun o => (hS.cell _).trans (cA o)
    have cB' : ∀ o, wr.cell? ⟨w.heap.size + 1, o, none⟩ = _ := fun o => (hS.cell _).trans (cB o)
    by_cases hlt : k < m
    · obtain ⟨g1, o1, rfl, e1⟩ := (K1.out.up B1) k hlt
      obtain ⟨g2, o2, rfl, e2⟩ := (K2.out.up B1) k hlt
      rw [← hS.cell] at e1 e2
      have hlt' : (k : Int) < m := by omega
      dsimp only at e1 e2
      clear cA cB
      go_wp2_with fail
      go_quiet (fail)
      go_wp2_with fail
      go_roundw
      case rel => exact ⟨k + 1, by omega, by go_num, hS.drewN _⟩
      case measure => simp [intOf]; omega
    · obtain rfl : k = m := by omega
      clear cA cB
      go_wp2_with fail
      go_ret
      exact ⟨rfl, B1.trans ((hS.below _).mono B1.size)⟩
end Go.Proofs.Ythkkogpegmmbdaa
