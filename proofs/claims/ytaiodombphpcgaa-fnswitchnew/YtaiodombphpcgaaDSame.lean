/- Lists and counts held against each other, as the laws on drawn things do it. -/
import Derived.Test.YtaiodombphpcgaaCnC
import Derived.Deep.QuietTactic
import Derived.BigQuiet
namespace Go.Proofs.Ytaiodombphpcgaa
open Go.RowKit
set_option linter.unusedVariables false
set_option linter.unusedSimpArgs false

theorem sameInts_any (a1 a2 : Option Addr) (n c1 c2 : Nat) (f : Nat → Int) (w : World) (hn : n ≤ 1048576) (h1 : RdRow w a1 n fun i => .int .i64 (f i)) (h2 : RdRow w a2 n fun i => .int .i64 (f i)) :
    Calls Try.prog 30 #[.slice a1 n c1, .slice a2 n c2] w fun e w' => e = .returned (.bool true) ∧ Same w w' := by
  go_enter Try.func30, Try.ntmps30
  go_wp2_with fail
  go_loopw [5] (fun i wr => ∃ k : Nat, k ≤ n ∧ i = .int .i64 k ∧ Same w wr) (fun i _ => n - (intOf i).toNat)
  case atStart => exact ⟨0, Nat.zero_le _, rfl, Same.refl _⟩
  case round =>
    obtain ⟨k, hk, rfl, hS⟩ := hrel
    by_cases hlt : k < n
    · obtain ⟨g1, o1, rfl, e1⟩ := h1 k hlt
      obtain ⟨g2, o2, rfl, e2⟩ := h2 k hlt
      rw [← hS.cell] at e1 e2
      dsimp only at e1 e2
      have hbb : (f k != f k) = false := by simp
      clear h1 h2
      have hlt' : (k : Int) < n := by omega
      go_wp2_with fail
      go_quiet (fail)
      go_wp2_with fail
      go_roundw
      case rel => exact ⟨k + 1, by omega, by go_num, hS.drewN _⟩
      case measure => simp [intOf]; omega
    · obtain rfl : k = n := by omega
      go_wp2_with fail
      go_ret
      exact ⟨rfl, hS⟩
theorem sameBools_any (a1 a2 : Option Addr) (n c1 c2 : Nat) (f : Nat → Bool) (w : World) (hn : n ≤ 1048576) (h1 : RdRow w a1 n fun i => .bool (f i)) (h2 : RdRow w a2 n fun i => .bool (f i)) :
    Calls Try.prog 31 #[.slice a1 n c1, .slice a2 n c2] w fun e w' => e = .returned (.bool true) ∧ Same w w' := by
  go_enter Try.func31, Try.ntmps31
  go_wp2_with fail
  go_loopw [5] (fun i wr => ∃ k : Nat, k ≤ n ∧ i = .int .i64 k ∧ Same w wr) (fun i _ => n - (intOf i).toNat)
  case atStart => exact ⟨0, Nat.zero_le _, rfl, Same.refl _⟩
  case round =>
    obtain ⟨k, hk, rfl, hS⟩ := hrel
    by_cases hlt : k < n
    · obtain ⟨g1, o1, rfl, e1⟩ := h1 k hlt
      obtain ⟨g2, o2, rfl, e2⟩ := h2 k hlt
      rw [← hS.cell] at e1 e2
      dsimp only at e1 e2
      have hbb : (f k != f k) = false := by simp
      clear h1 h2
      have hlt' : (k : Int) < n := by omega
      go_wp2_with fail
      go_quiet (fail)
      go_wp2_with fail
      go_roundw
      case rel => exact ⟨k + 1, by omega, by go_num, hS.drewN _⟩
      case measure => simp [intOf]; omega
    · obtain rfl : k = n := by omega
      go_wp2_with fail
      go_ret
      exact ⟨rfl, hS⟩
set_option maxHeartbeats 1000000 in
theorem sameCounts_any (A B : Cnt) (w : World) (hs : A.Small) (hA : RdCnt w A) (hB : RdCnt w B) (h : AlikeC A B) :
    Calls Try.prog 12 #[.agg A.cells, .agg B.cells] w fun e w' => e = .returned (.bool true) ∧ Below w.heap.size w w' := by
  obtain ⟨aU, nU, cU, u, lo, aP, nP, cP, p⟩ := A
  obtain ⟨bU, nU', dU, u', lo', bP, nP', dP, p'⟩ := B
  obtain ⟨h1, h2, h3, h4, h5⟩ := h
  dsimp only at h1 h2 h3 h4 h5
  subst h1 h2 h3 h4 h5
  have hs1 : nU' ≤ 1048576 := hs.u
  have hs2 : nP' ≤ 1048576 := hs.p
  obtain ⟨w2, hw2⟩ : ∃ w2, w2 = (w.alloc (.cells #[.slice aU nU' cU, .int .i64 lo', .slice aP nP' cP] 31)).alloc (.cells #[.slice bU nU' dU, .int .i64 lo', .slice bP nP' dP] 31) := ⟨_, rfl⟩
  have k1 : w2.heap[w.heap.size]? = some (.cells #[.slice aU nU' cU, .int .i64 lo', .slice aP nP' cP] 31 (0, 0)) := by rw [hw2]; exact (blk_old _ (by simp)).trans (blk_new _ _)
  have k2 : w2.heap[w.heap.size + 1]? = some (.cells #[.slice bU nU' dU, .int .i64 lo', .slice bP nP' dP] 31 (0, 0)) := by
    rw [hw2]
    have := blk_new (w.alloc (.cells #[.slice aU nU' cU, .int .i64 lo', .slice aP nP' cP] 31)) (.cells #[.slice bU nU' dU, .int .i64 lo', .slice bP nP' dP] 31)
    simpa using this
  have B2 : Below w.heap.size w w2 := by rw [hw2]; go_grown
  have HU1 : Hid (RdRow w2 aU nU' fun i => .int .i64 (u' i)) := hA.u.up B2
  have HU2 : Hid (RdRow w2 bU nU' fun i => .int .i64 (u' i)) := hB.u.up B2
  have HP1 : Hid (RdRow w2 aP nP' fun i => .bool (p' i)) := hA.p.up B2
  have HP2 : Hid (RdRow w2 bP nP' fun i => .bool (p' i)) := hB.p.up B2
  have c1 := blk_cell k1
  have c2 := blk_cell k2
  rw [hw2] at c1 c2
  clear hs hA hB
  unfold Cnt.cells
  dsimp only
  go_enter Try.func12, Try.ntmps12
  go_wp2_with fail
  rw [← hw2]
  clear hw2 c1 c2
  refine (sameInts_any aU bU nU' cU dU u' _ hs1 HU1.out HU2.out).mono ?_
  rintro e w3 ⟨rfl, hS⟩
  have c1 := blk_cell ((congrArg (·[w.heap.size]?) hS.heap).trans k1)
  have c2 := blk_cell ((congrArg (·[w.heap.size + 1]?) hS.heap).trans k2)
  have b3 := hS.below w2.heap.size
  have B3 := B2.trans (b3.mono B2.size)
  have HP13 : Hid (RdRow w3 aP nP' fun i => .bool (p' i)) := HP1.out.up b3
  have HP23 : Hid (RdRow w3 bP nP' fun i => .bool (p' i)) := HP2.out.up b3
  clear hS k1 k2 b3 B2 HU1 HU2 HP1 HP2
  go_wp2_with fail
  refine (sameBools_any aP bP nP' cP dP p' _ hs2 HP13.out HP23.out).mono ?_
  rintro e w4 ⟨rfl, hS⟩
  have B4 := B3.trans ((hS.below w3.heap.size).mono B3.size)
  clear hS B3 HP13 HP23 c1 c2
  go_wp2_with fail
  go_ret
  exact ⟨rfl, B4⟩
theorem bigC_any (a : Option Addr) (len cap : Nat) (w : World) (h : len ≤ maxLen) :
    Calls Try.prog 4 #[.slice a len cap] w fun e w' => e = .returned (.bool (decide (1048576 < (len : Int)))) ∧ w' = w := by
  have hm : (len : Int) ≤ 9223372036854775807 := by unfold maxLen at h; omega
  go_enter Try.func4, Try.ntmps4
  go_wp2
  go_ret
  exact ⟨rfl, rfl⟩
end Go.Proofs.Ytaiodombphpcgaa
