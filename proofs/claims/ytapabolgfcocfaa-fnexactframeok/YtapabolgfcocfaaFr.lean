/- What the functions on frames answer: contracts over the translation, for every frame. -/
import Derived.Test.YtapabolgfcocfaaProg
import Derived.WalkKit
import Derived.WalkSpells
import Derived.WalkLawsBesides
import Derived.Below
namespace Go.Proofs.Ytapabolgfcocfaa
open Go.RowKit
set_option linter.unusedVariables false

theorem ret_bool {a b : Bool} (h : a = b) : Ending.returned (.bool a) = .returned (.bool b) := by rw [h]
theorem ret_int {k : IntKind} {a b : Int} (h : a = b) : Ending.returned (.int k a) = .returned (.int k b) := by rw [h]

theorem l1In_any (n lo hi : Int) (w : World) :
    Calls Try.prog 30 #[.int .i64 n, .int .i64 lo, .int .i64 hi] w fun e w' => e = .returned (.bool (decide (lo ≤ n ∧ n ≤ hi))) ∧ w' = w := by
  by_cases h1 : lo ≤ n
  · by_cases h2 : n ≤ hi
    · go_enter Try.func30, Try.ntmps30
      go_wp2
      go_ret
      exact ⟨by simp [h1, h2], rfl⟩
    · go_enter Try.func30, Try.ntmps30
      go_wp2
      go_ret
      exact ⟨by simp; omega, rfl⟩
  · go_enter Try.func30, Try.ntmps30
    go_wp2
    go_ret
    exact ⟨by simp; omega, rfl⟩

theorem szFrame_any (k d s p left : Int) (b : ByteArray) (w : World) (hb : b.size ≤ maxLen) (h0 : 0 ≤ left) (h1 : left ≤ 1048576) :
    Calls Try.prog 9 #[.agg #[.int .i64 k, .int .i64 d, .int .i64 s, .int .i64 p, .string b], .int .i64 left] w fun e w' => e = .returned (.int .i64 (if left < b.size then -1 else left - b.size)) ∧ Below w.heap.size w w' := by
  unfold maxLen at hb
  by_cases h : left < b.size
  · go_enter Try.func9, Try.ntmps9
    go_wp2
    go_ret
    exact ⟨rfl, (Below.refl _ _).alloc (Nat.le_refl _) _⟩
  · go_enter Try.func9, Try.ntmps9
    go_wp2
    go_ret
    exact ⟨rfl, (Below.refl _ _).alloc (Nat.le_refl _) _⟩

theorem l1Mac_any (n : Int) (w : World) :
    Calls Try.prog 29 #[.int .i64 n] w fun e w' => e = .returned (.bool (decide (1 ≤ n ∧ n ≤ 20))) ∧ w' = w := by
  go_enter Try.func29, Try.ntmps29
  go_wp2_with (go_at_call 30; refine (l1In_any _ _ _ _).mono ?_; rintro e w' ⟨rfl, rfl⟩)
  go_ret
  exact ⟨ret_bool (by simp), rfl⟩

theorem isAddress_any (n : Int) (w : World) :
    Calls Try.prog 31 #[.int .i64 n] w fun e w' => e = .returned (.bool (decide (1 ≤ n ∧ n ≤ 20))) ∧ w' = w := by
  by_cases h1 : 1 ≤ n
  · go_enter Try.func31, Try.ntmps31
    go_wp2
    go_ret
    exact ⟨by simp [h1], rfl⟩
  · go_enter Try.func31, Try.ntmps31
    go_wp2
    go_ret
    exact ⟨by simp; omega, rfl⟩

def frOkB (k d s p : Int) (n : Nat) : Bool := decide ((k = 1 ∧ (1 ≤ d ∧ d ≤ 20 ∨ d = 255) ∧ 1 ≤ s ∧ s ≤ 20 ∧ 0 ≤ p ∧ p ≤ 2 ∧ n ≤ 40) ∨ ((k = 2 ∨ k = 3) ∧ d = 0 ∧ s = 0 ∧ p = 2 ∧ n = 0))

theorem toFrame_any (k d s p : Int) (b : ByteArray) (w : World) :
    Calls Try.prog 11 #[.agg #[.int .i64 k, .int .i64 d, .int .i64 s, .int .i64 p, .string b]] w fun e w' => e = .returned (.agg #[.int .i64 k, .int .i64 d, .int .i64 s, .int .i64 p, .string b]) ∧ Below w.heap.size w w' := by
  go_enter Try.func11, Try.ntmps11
  go_wp2
  exact bodyPost_ret (v := .agg #[.int .i64 k, .int .i64 d, .int .i64 s, .int .i64 p, .string b]) (by simp [results, Try.results11, go_sem]) rfl ⟨rfl, (((Below.refl _ _).alloc (Nat.le_refl _) _).alloc (by simp) _).alloc (by simp; omega) _⟩

theorem empty_iff (b : ByteArray) : b.toList = [] ↔ b.size = 0 := by
  rw [ByteArray.toList_eq, ← List.length_eq_zero_iff]
  rfl
theorem isEmpty_eq (b : ByteArray) : b.toList.isEmpty = decide (b.size = 0) := by
  rw [Bool.eq_iff_iff, List.isEmpty_iff, empty_iff]; simp

theorem sFrameOk_any (k d s p : Int) (b : ByteArray) (w : World) (hb : b.size ≤ maxLen) :
    Calls Try.prog 10 #[.agg #[.int .i64 k, .int .i64 d, .int .i64 s, .int .i64 p, .string b]] w fun e w' => e = .returned (.bool (frOkB k d s p b.size)) ∧ Below w.heap.size w w' := by
  unfold maxLen at hb
  have hE := isEmpty_eq b
  generalize hn : b.size = n at *
  go_enter Try.func10, Try.ntmps10
  go_wp2_with (first | (go_at_call 30; refine (l1In_any _ _ _ _).mono ?_; rintro e w' ⟨rfl, rfl⟩) | (go_at_call 29; refine (l1Mac_any _ _).mono ?_; rintro e w' ⟨rfl, rfl⟩))
  all_goals go_ret
  all_goals refine ⟨ret_bool ?_, (Below.refl _ _).alloc (Nat.le_refl _) _⟩
  all_goals clear hn hE
  all_goals (rw [Bool.eq_iff_iff]; unfold frOkB; simp at *; try omega)

theorem iFrameOk_any (k d s p : Int) (b : ByteArray) (w : World) (hb : b.size ≤ maxLen) :
    Calls Try.prog 12 #[.agg #[.int .i64 k, .int .i64 d, .int .i64 s, .int .i64 p, .string b]] w fun e w' => e = .returned (.bool (frOkB k d s p b.size)) ∧ Below w.heap.size w w' := by
  unfold maxLen at hb
  have hE := isEmpty_eq b
  have hE2 := empty_iff b
  generalize hn : b.size = n at *
  go_enter Try.func12, Try.ntmps12
  go_wp2_with (first | (go_at_call 31; refine (isAddress_any _ _).mono ?_; rintro e w' ⟨rfl, rfl⟩))
  all_goals go_ret
  all_goals refine ⟨ret_bool ?_, (Below.refl _ _).alloc (Nat.le_refl _) _⟩
  all_goals clear hn hE
  all_goals (rw [Bool.eq_iff_iff]; unfold frOkB; simp at *; try omega)
end Go.Proofs.Ytapabolgfcocfaa
