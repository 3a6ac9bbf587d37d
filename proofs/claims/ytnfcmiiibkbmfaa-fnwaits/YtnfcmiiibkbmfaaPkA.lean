/- Picking respects where rounds lie. -/
import Derived.Test.YtnfcmiiibkbmfaaPkS2
namespace Go.Proofs.Ytnfcmiiibkbmfaa
open Go.RowKit
set_option linter.unusedVariables false
set_option linter.unusedSimpArgs false

theorem Alike.now {A B : Rnd} (h : Alike A B) : B.now = A.now := by unfold Rnd.now; rw [h.t]
theorem alike_turn {A B : Rnd} (h : Alike A B) : Alike (turnR A) (turnR B) := by
  refine ⟨h.nQ, h.q, h.nD, h.d, ?_, rfl, h.nS, h.l, h.z⟩
  show (((B.now + 1) % B.nQ : Nat) : Int) = (((A.now + 1) % A.nQ : Nat) : Int)
  rw [h.now, h.nQ]
theorem alike_grant {A B : Rnd} (h : Alike A B) : Alike (grantR A) (grantR B) := by
  unfold grantR
  by_cases hf : A.fresh = true
  · rw [if_pos hf, if_pos (by rw [h.f]; exact hf)]
    refine ⟨h.nQ, h.q, h.nD, ?_, h.t, rfl, h.nS, h.l, h.z⟩
    show updI B.d B.now (B.d B.now + B.q B.now) = updI A.d A.now (A.d A.now + A.q A.now)
    rw [h.now, h.d, h.q]
  · rw [if_neg hf, if_neg (by rw [h.f]; exact hf)]
    exact h
theorem alike_took {A B : Rnd} (h : Alike A B) (x y : Nat → Int) (hx : x = y) : Alike { tookR A with d := x } { tookR B with d := y } := by
  subst hx
  refine ⟨h.nQ, h.q, h.nD, rfl, h.t, h.f, h.nS, ?_, ?_⟩
  · show updN B.L B.now (B.L B.now - 1) = updN A.L A.now (A.L A.now - 1)
    rw [h.now, h.l]
  · show updZ B.z B.now (fun j => B.z B.now (j + 1)) = updZ A.z A.now (fun j => A.z A.now (j + 1))
    rw [h.now, h.z]
theorem alike_take {A B : Rnd} (h : Alike A B) : Alike (takeR A) (takeR B) := by
  unfold takeR
  by_cases h1 : A.L A.now = 1
  · rw [if_pos h1, if_pos (by rw [h.now, h.l]; exact h1)]
    exact alike_turn (alike_took h _ _ (by rw [h.now, h.d]))
  · rw [if_neg h1, if_neg (by rw [h.now, h.l]; exact h1)]
    exact alike_took h (updI A.d A.now (A.d A.now - A.z A.now 0)) (updI B.d B.now (B.d B.now - B.z B.now 0)) (by rw [h.now, h.d, h.z])
theorem Picks.like {k : Nat} {R R' : Rnd} {c : Nat} {s : Int} (h : Picks k R R' c s) : ∀ {B : Rnd}, Alike R B → ∃ B', Picks k B B' c s ∧ Alike R' B' := by
  induction h with
  | skip h0 _ ih =>
    intro B hB
    obtain ⟨B', hp, ha⟩ := ih (alike_turn hB)
    exact ⟨B', .skip (by rw [hB.now, hB.l]; exact h0) hp, ha⟩
  | short h0 h1 _ ih =>
    intro B hB
    obtain ⟨B', hp, ha⟩ := ih (alike_turn (alike_grant hB))
    exact ⟨B', .short (by rw [hB.now, hB.l]; exact h0) (by rw [hB.now, (alike_grant hB).d, hB.z]; exact h1) hp, ha⟩
  | take h0 h1 =>
    rename_i R0
    intro B hB
    have := Picks.take (R := B) (by rw [hB.now, hB.l]; exact h0) (by rw [hB.now, (alike_grant hB).d, hB.z]; exact h1)
    rw [hB.now, hB.z] at this
    exact ⟨_, this, alike_take (alike_grant hB)⟩
end Go.Proofs.Ytnfcmiiibkbmfaa
