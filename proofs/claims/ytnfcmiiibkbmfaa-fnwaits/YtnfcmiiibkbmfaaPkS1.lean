/- The next class's turn, as the specification begins it. -/
import Derived.Test.YtnfcmiiibkbmfaaPkM
import Derived.Laws.Tables
import Derived.Laws.Rows
namespace Go.Proofs.Ytnfcmiiibkbmfaa
open Go.RowKit
set_option linter.unusedVariables false
set_option linter.unusedSimpArgs false

theorem rem_turn {R : Rnd} (ht : 0 ≤ R.turn ∧ R.turn < R.nQ) : (R.turn + 1).tmod (R.nQ : Int) = (((R.now + 1) % R.nQ : Nat) : Int) := by
  have e : R.turn + 1 = ((R.now + 1 : Nat) : Int) := by unfold Rnd.now; omega
  rw [e, Int.tmod_eq_emod_of_nonneg (by omega)]
  rfl
set_option maxHeartbeats 1000000 in
theorem l4Turn_w (R : Rnd) (w : World) (hn : 1 ≤ R.nQ ∧ R.nQ ≤ 4) (ht : 0 ≤ R.turn ∧ R.turn < R.nQ) :
    Calls Try.prog 42 #[.agg R.cells] w fun e w' => e = .returned (.agg (turnR R).cells) ∧ Below w.heap.size w w' := by
  have hrt := rem_turn ht
  have hnz : ((R.nQ : Int) == 0) = false := by simp; omega
  have HT : Hid ((R.turn + 1).tmod (R.nQ : Int) = (((R.now + 1) % R.nQ : Nat) : Int)) := hrt
  have ht2 : R.turn ≤ 4 := by omega
  have ht1 : 0 ≤ R.turn := ht.1
  have hnz2 : ¬ R.nQ = 0 := by omega
  clear hn ht
  unfold Rnd.cells
  go_enter Try.func42, Try.ntmps42
  go_wp2_with fail
  exact bodyPost_ret (v := .agg #[.slice R.aQ R.nQ R.cQ, .slice R.aD R.nD R.cD, .int .i64 (((R.now : Int) + 1) % (R.nQ : Int)), .bool true, .slice R.aS R.nS R.cS]) (by simp [results, Try.results42, go_sem]) rfl ⟨rfl, ((Below.refl _ _).alloc (Nat.le_refl _) _).alloc (by simp) _⟩
theorem l4Turn_any (R : Rnd) (w : World) (h : R.Ok) :
    Calls Try.prog 42 #[.agg R.cells] w fun e w' => e = .returned (.agg (turnR R).cells) ∧ Below w.heap.size w w' := l4Turn_w R w h.n h.t
end Go.Proofs.Ytnfcmiiibkbmfaa
