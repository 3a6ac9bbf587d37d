/- How many cells a frame needs: contracts of both sides. -/
import Derived.Test.YthoeakohjellkaaFr
import Derived.Test.YthoeakohjellkaaBox
namespace Go.Proofs.Ythoeakohjellkaa
open Go.RowKit
set_option linter.unusedVariables false

theorem frOk_le {k d s p : Int} {n : Nat} (h : frOkB k d s p n = true) : n ≤ 40 := by
  unfold frOkB at h
  simp only [decide_eq_true_eq] at h
  omega

theorem cellsFor_any (n : Int) (w : World) (h0 : 0 ≤ n) (h1 : n ≤ 100000000) :
    Calls Try.prog 42 #[.int .i64 n] w fun e w' => e = .returned (.int .i64 ((n + 9) / 10)) ∧ w' = w := by
  go_enter Try.func42, Try.ntmps42
  go_wp2
  go_ret
  exact ⟨ret_int (by omega), rfl⟩

theorem textSize_any (k d s p : Int) (b : ByteArray) (w : World) (hb : b.size ≤ 40) :
    Calls Try.prog 39 #[.agg #[.int .i64 k, .int .i64 d, .int .i64 s, .int .i64 p, .string b]] w fun e w' => e = .returned (.int .i64 (b.size + 9)) ∧ Below w.heap.size w w' := by
  go_enter Try.func39, Try.ntmps39
  go_wp2
  go_ret
  exact ⟨ret_int (by omega), (Below.refl _ _).alloc (Nat.le_refl _) _⟩

theorem l1Cells_any (k d s p : Int) (b : ByteArray) (w : World) (hb : b.size ≤ 40) :
    Calls Try.prog 45 #[.agg #[.int .i64 k, .int .i64 d, .int .i64 s, .int .i64 p, .string b]] w fun e w' => e = .returned (.int .i64 ((b.size + 9 + 9) / 10)) ∧ Below w.heap.size w w' := by
  go_enter Try.func45, Try.ntmps45
  go_wp2
  go_ret
  exact ⟨ret_int (by omega), (Below.refl _ _).alloc (Nat.le_refl _) _⟩

def cellsN (k d s p : Int) (n : Nat) : Int := if frOkB k d s p n then (n + 9 + 9) / 10 else 0

theorem sCellsOf_any (k d s p : Int) (b : ByteArray) (w : World) (hb : b.size ≤ maxLen) :
    Calls Try.prog 14 #[.agg #[.int .i64 k, .int .i64 d, .int .i64 s, .int .i64 p, .string b]] w fun e w' => e = .returned (.int .i64 (cellsN k d s p b.size)) ∧ Below w.heap.size w w' := by
  cases hok : frOkB k d s p b.size
  · have hv : cellsN k d s p b.size = 0 := by simp [cellsN, hok]
    rw [hv]
    go_enter Try.func14, Try.ntmps14
    go_wp2_with fail
    refine (sFrameOk_any _ _ _ _ _ _ hb).mono ?_
    rintro e w1 ⟨rfl, hb1⟩
    rw [hok]
    have B1 := first hb1
    go_wp2_with fail
    go_ret
    exact ⟨rfl, under B1⟩
  · have hv : cellsN k d s p b.size = (b.size + 9 + 9) / 10 := by simp [cellsN, hok]
    have hle := frOk_le hok
    rw [hv]
    clear hv
    go_enter Try.func14, Try.ntmps14
    go_wp2_with fail
    refine (sFrameOk_any _ _ _ _ _ _ hb).mono ?_
    rintro e w1 ⟨rfl, hb1⟩
    rw [hok]
    have B1 := first hb1
    have hc1 := boxed B1
    clear hb1 hok
    go_wp2_with fail
    refine (l1Cells_any _ _ _ _ _ _ hle).mono ?_
    rintro e w2 ⟨rfl, hb2⟩
    have B2 := next B1 hb2
    go_wp2_with fail
    go_ret
    exact ⟨rfl, under B2⟩

theorem iCellsOf_any (k d s p : Int) (b : ByteArray) (w : World) (hb : b.size ≤ maxLen) :
    Calls Try.prog 12 #[.agg #[.int .i64 k, .int .i64 d, .int .i64 s, .int .i64 p, .string b]] w fun e w' => e = .returned (.int .i64 (cellsN k d s p b.size)) ∧ Below w.heap.size w w' := by
  cases hok : frOkB k d s p b.size
  · have hv : cellsN k d s p b.size = 0 := by simp [cellsN, hok]
    rw [hv]
    go_enter Try.func12, Try.ntmps12
    go_wp2_with fail
    refine (iFrameOk_any _ _ _ _ _ _ hb).mono ?_
    rintro e w1 ⟨rfl, hb1⟩
    rw [hok]
    have B1 := first hb1
    go_wp2_with fail
    go_ret
    exact ⟨rfl, under B1⟩
  · have hv : cellsN k d s p b.size = (b.size + 9 + 9) / 10 := by simp [cellsN, hok]
    have hle := frOk_le hok
    rw [hv]
    clear hv
    go_enter Try.func12, Try.ntmps12
    go_wp2_with fail
    refine (iFrameOk_any _ _ _ _ _ _ hb).mono ?_
    rintro e w1 ⟨rfl, hb1⟩
    rw [hok]
    have B1 := first hb1
    have hc1 := boxed B1
    clear hb1 hok
    go_wp2_with fail
    refine (textSize_any _ _ _ _ _ _ hle).mono ?_
    rintro e w2 ⟨rfl, hb2⟩
    have B2 := next B1 hb2
    clear hb2 hc1
    go_wp2_with fail
    refine (cellsFor_any _ _ (by omega) (by omega)).mono ?_
    rintro e w3 ⟨rfl, rfl⟩
    go_wp2_with fail
    go_ret
    exact ⟨rfl, under B2⟩

end Go.Proofs.Ythoeakohjellkaa
