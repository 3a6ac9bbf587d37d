/- What a pick leaves of the rows: the first of one class is gone, all else is as it was. -/
import Derived.Test.YtnfcmiiibkbmfaaPkM
namespace Go.Proofs.Ytnfcmiiibkbmfaa
open Go.RowKit
set_option linter.unusedVariables false
set_option linter.unusedSimpArgs false

theorem Picks.rows {k : Nat} {R M : Rnd} {c : Nat} {s : Int} (h : Picks k R M c s) : R.L c ≠ 0 ∧ R.z c 0 = s ∧ M.nS = R.nS ∧ M.L c = R.L c - 1 ∧ (∀ j, M.z c j = R.z c (j + 1)) ∧ ∀ i, i ≠ c → M.L i = R.L i ∧ M.z i = R.z i := by
  induction h with
  | skip h0 _ ih => exact ih
  | short h0 h1 _ ih =>
    rename_i R0 _ _ _ _
    have e1 : (turnR (grantR R0)).L = R0.L := grantR_L R0
    have e2 : (turnR (grantR R0)).z = R0.z := grantR_z R0
    have e3 : (turnR (grantR R0)).nS = R0.nS := by show (grantR R0).nS = R0.nS; unfold grantR; split <;> rfl
    rw [e1, e2, e3] at ih
    exact ih
  | take h0 h1 =>
    rename_i R0
    have e3 : (grantR R0).nS = R0.nS := by unfold grantR; split <;> rfl
    have eL : (takeR (grantR R0)).L = updN R0.L R0.now (R0.L R0.now - 1) := by
      have : (takeR (grantR R0)).L = updN (grantR R0).L (grantR R0).now ((grantR R0).L (grantR R0).now - 1) := by unfold takeR; split <;> rfl
      rw [this, grantR_L, grantR_now]
    have eZ : (takeR (grantR R0)).z = updZ R0.z R0.now (fun j => R0.z R0.now (j + 1)) := by
      have : (takeR (grantR R0)).z = updZ (grantR R0).z (grantR R0).now (fun j => (grantR R0).z (grantR R0).now (j + 1)) := by unfold takeR; split <;> rfl
      rw [this, grantR_z, grantR_now]
    have eS : (takeR (grantR R0)).nS = R0.nS := by
      have : (takeR (grantR R0)).nS = (grantR R0).nS := by unfold takeR; split <;> rfl
      rw [this, e3]
    refine ⟨h0, rfl, eS, by rw [eL, updN_self], fun j => by rw [eZ, updZ_self], fun i hi => ⟨by rw [eL, updN_ne hi], by rw [eZ, updZ_ne hi]⟩⟩
end Go.Proofs.Ytnfcmiiibkbmfaa
