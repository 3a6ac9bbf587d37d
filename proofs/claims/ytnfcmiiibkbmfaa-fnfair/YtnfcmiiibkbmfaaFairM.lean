/- Two classes share what is picked as their quanta say: the plain mathematics. -/
import Derived.Test.YtnfcmiiibkbmfaaPaN
namespace Go.Proofs.Ytnfcmiiibkbmfaa
open Go.RowKit
set_option linter.unusedVariables false
set_option linter.unusedSimpArgs false

/-- by how many turns class 0 is ahead of class 1 -/
def aheadR (R : Rnd) : Int := if R.turn = 0 then (if R.fresh = true then 0 else 1) else (if R.fresh = true then 1 else 0)
/-- what was picked of each class and what it has left are the turns that it had, a quantum each -/
structure FairR (R : Rnd) (q0 q1 a b : Int) : Prop where
  n : R.nQ = 2
  t : R.turn = 0 ∨ R.turn = 1
  k0 : R.q 0 = q0
  k1 : R.q 1 = q1
  run : ∃ g0 g1 : Int, a + R.d 0 = g0 * q0 ∧ b + R.d 1 = g1 * q1 ∧ g0 - g1 = aheadR R
theorem FairR.new {n : Nat} {f : Nat → Int} (hn : n = 2) : FairR (newR n f none 0 0 0) (f 0) (f 1) 0 0 :=
  ⟨hn, .inl rfl, rfl, rfl, 0, 0, by simp [newR], by simp [newR], by simp [aheadR, newR]⟩
theorem FairR.like {A B : Rnd} {q0 q1 a b : Int} (h : FairR A q0 q1 a b) (hn : B.nQ = A.nQ) (ht : B.turn = A.turn) (hf : B.fresh = A.fresh) (hq : B.q = A.q) (hd : B.d = A.d) : FairR B q0 q1 a b := by
  obtain ⟨g0, g1, h1, h2, h3⟩ := h.run
  exact ⟨hn.trans h.n, by rw [ht]; exact h.t, by rw [hq]; exact h.k0, by rw [hq]; exact h.k1, g0, g1, by rw [hd]; exact h1, by rw [hd]; exact h2, by unfold aheadR at *; rw [ht, hf]; exact h3⟩
theorem FairR.alike {A B : Rnd} {q0 q1 a b : Int} (h : FairR A q0 q1 a b) (hA : Alike A B) : FairR B q0 q1 a b := h.like hA.nQ hA.t hA.f hA.q hA.d
theorem now01 {R : Rnd} (h : R.turn = 0 ∨ R.turn = 1) : (R.turn = 0 ∧ R.now = 0) ∨ (R.turn = 1 ∧ R.now = 1) := by
  unfold Rnd.now
  rcases h with e | e
  · exact .inl ⟨e, by rw [e]; rfl⟩
  · exact .inr ⟨e, by rw [e]; rfl⟩
theorem FairR.grant {R : Rnd} {q0 q1 a b : Int} (h : FairR R q0 q1 a b) : FairR (grantR R) q0 q1 a b ∧ (grantR R).fresh = false := by
  by_cases hf : R.fresh = true
  · have e : grantR R = { R with d := updI R.d R.now (R.d R.now + R.q R.now), fresh := false } := by unfold grantR; rw [if_pos hf]
    rw [e]
    obtain ⟨g0, g1, h1, h2, h3⟩ := h.run
    refine ⟨⟨h.n, h.t, h.k0, h.k1, ?_⟩, rfl⟩
    rcases now01 h.t with ⟨et, en⟩ | ⟨et, en⟩
    · refine ⟨g0 + 1, g1, ?_, ?_, ?_⟩
      · show a + updI R.d R.now (R.d R.now + R.q R.now) 0 = _
        rw [en, updI_self, h.k0, Int.add_mul, Int.one_mul]
        omega
      · show b + updI R.d R.now (R.d R.now + R.q R.now) 1 = _
        rw [en, updI_ne (by omega)]
        exact h2
      · unfold aheadR at *
        simp only [et, hf, if_true] at h3 ⊢
        simp
        omega
    · refine ⟨g0, g1 + 1, ?_, ?_, ?_⟩
      · show a + updI R.d R.now (R.d R.now + R.q R.now) 0 = _
        rw [en, updI_ne (by omega)]
        exact h1
      · show b + updI R.d R.now (R.d R.now + R.q R.now) 1 = _
        rw [en, updI_self, h.k1, Int.add_mul, Int.one_mul]
        omega
      · unfold aheadR at *
        simp only [et, hf, if_true] at h3 ⊢
        simp at h3 ⊢
        omega
  · have e : grantR R = R := by unfold grantR; rw [if_neg hf]
    rw [e]
    exact ⟨h, by simpa using hf⟩
theorem FairR.turn {R : Rnd} {q0 q1 a b : Int} (h : FairR R q0 q1 a b) (hf : R.fresh = false) : FairR (turnR R) q0 q1 a b := by
  obtain ⟨g0, g1, h1, h2, h3⟩ := h.run
  rcases now01 h.t with ⟨et, en⟩ | ⟨et, en⟩
  · have e : (turnR R).turn = 1 := by show (((R.now + 1) % R.nQ : Nat) : Int) = 1; rw [en, h.n]; rfl
    refine ⟨h.n, .inr e, h.k0, h.k1, g0, g1, h1, h2, ?_⟩
    unfold aheadR at *
    rw [e, show (turnR R).fresh = true from rfl]
    rw [et, hf] at h3
    simpa using h3
  · have e : (turnR R).turn = 0 := by show (((R.now + 1) % R.nQ : Nat) : Int) = 0; rw [en, h.n]; rfl
    refine ⟨h.n, .inl e, h.k0, h.k1, g0, g1, h1, h2, ?_⟩
    unfold aheadR at *
    rw [e, show (turnR R).fresh = true from rfl]
    rw [et, hf] at h3
    simpa using h3
theorem FairR.took {R : Rnd} {q0 q1 a b : Int} (h : FairR R q0 q1 a b) : (R.now = 0 ∧ FairR (tookR R) q0 q1 (a + R.z R.now 0) b) ∨ (R.now = 1 ∧ FairR (tookR R) q0 q1 a (b + R.z R.now 0)) := by
  obtain ⟨g0, g1, h1, h2, h3⟩ := h.run
  rcases now01 h.t with ⟨et, en⟩ | ⟨et, en⟩
  · refine .inl ⟨en, h.n, h.t, h.k0, h.k1, g0, g1, ?_, ?_, h3⟩
    · show a + R.z R.now 0 + updI R.d R.now (R.d R.now - R.z R.now 0) 0 = _
      rw [en, updI_self]
      omega
    · show b + updI R.d R.now (R.d R.now - R.z R.now 0) 1 = _
      rw [en, updI_ne (by omega)]
      exact h2
  · refine .inr ⟨en, h.n, h.t, h.k0, h.k1, g0, g1, ?_, ?_, h3⟩
    · show a + updI R.d R.now (R.d R.now - R.z R.now 0) 0 = _
      rw [en, updI_ne (by omega)]
      exact h1
    · show b + R.z R.now 0 + updI R.d R.now (R.d R.now - R.z R.now 0) 1 = _
      rw [en, updI_self]
      omega
/-- a pick of a round of which both classes have more than one waiting -/
theorem Picks.fair {k : Nat} {R M : Rnd} {c : Nat} {s : Int} (h : Picks k R M c s) : ∀ {q0 q1 a b : Int}, FairR R q0 q1 a b → 1 < R.L 0 → 1 < R.L 1 → ((c = 0 ∧ FairR M q0 q1 (a + s) b) ∨ (c = 1 ∧ FairR M q0 q1 a (b + s))) ∧ 0 < M.L 0 ∧ 0 < M.L 1 := by
  induction h with
  | skip h0 _ ih =>
    intro q0 q1 a b hF l0 l1
    rcases now01 hF.t with ⟨_, en⟩ | ⟨_, en⟩ <;> rw [en] at h0 <;> omega
  | short h0 h1 _ ih =>
    rename_i R0 _ _ _ _
    intro q0 q1 a b hF l0 l1
    obtain ⟨hG, hf⟩ := hF.grant
    exact ih (hG.turn hf) (by show 1 < (grantR R0).L 0; rw [grantR_L]; exact l0) (by show 1 < (grantR R0).L 1; rw [grantR_L]; exact l1)
  | take h0 h1 =>
    rename_i R0
    intro q0 q1 a b hF l0 l1
    obtain ⟨hG, hf⟩ := hF.grant
    have hn1 : (grantR R0).L (grantR R0).now ≠ 1 := by
      rw [grantR_L, grantR_now]
      rcases now01 hF.t with ⟨_, en⟩ | ⟨_, en⟩ <;> rw [en] <;> omega
    have e : takeR (grantR R0) = tookR (grantR R0) := by unfold takeR; rw [if_neg hn1]
    have hT := hG.took
    rw [grantR_now, grantR_z] at hT
    rw [e]
    refine ⟨hT, ?_, ?_⟩
    · show 0 < updN (grantR R0).L (grantR R0).now _ 0
      rw [grantR_L, grantR_now]
      rcases now01 hF.t with ⟨_, en⟩ | ⟨_, en⟩
      · rw [en, updN_self]; omega
      · rw [en, updN_ne (by omega)]; omega
    · show 0 < updN (grantR R0).L (grantR R0).now _ 1
      rw [grantR_L, grantR_now]
      rcases now01 hF.t with ⟨_, en⟩ | ⟨_, en⟩
      · rw [en, updN_ne (by omega)]; omega
      · rw [en, updN_self]; omega
theorem FairR.most {R : Rnd} {q0 q1 a b : Int} (h : FairR R q0 q1 a b) (ho : R.Ok) (l0 : 0 < R.L 0) (l1 : 0 < R.L 1) (h0 : 1 ≤ q0 ∧ q0 ≤ 6) (h1 : 1 ≤ q1 ∧ q1 ≤ 6) : a * q1 - b * q0 ≤ q0 * q1 + 5 * (q0 + q1) ∧ -(a * q1 - b * q0) ≤ q0 * q1 + 5 * (q0 + q1) := by
  obtain ⟨g0, g1, e0, e1, eg⟩ := h.run
  have d0 := (ho.c 0 (by rw [h.n]; omega)).2.2
  have d1 := (ho.c 1 (by rw [h.n]; omega)).2.2
  unfold defP at d0 d1
  rw [if_neg (by omega)] at d0 d1
  have hc : (g0 - g1 = 0 ∨ g0 - g1 = 1) ∧ 0 ≤ R.d 0 ∧ 0 ≤ R.d 1 ∧ R.d 0 ≤ 4 + q0 ∧ R.d 1 ≤ 4 + q1 ∧ (g0 - g1 = 0 → R.d 0 ≤ 4) ∧ (g0 - g1 = 1 → R.d 1 ≤ 4) := by
    rw [h.k0] at d0
    rw [h.k1] at d1
    have b0 : R.begun 0 = true ↔ 0 = R.now ∧ R.fresh = false := begun_of ho 0
    have b1 : R.begun 1 = true ↔ 1 = R.now ∧ R.fresh = false := begun_of ho 1
    unfold aheadR at eg
    rcases now01 h.t with ⟨et, en⟩ | ⟨et, en⟩
    · rw [en] at b0 b1
      have e1' : R.begun 1 = false := by
        cases hb : R.begun 1
        · rfl
        · exact absurd (b1.1 hb).1 (by omega)
      rw [e1'] at d1
      cases hf : R.fresh
      · rw [et, hf] at eg
        simp at eg d1 d0
        split at d0 <;> omega
      · have e0' : R.begun 0 = false := by
          cases hb : R.begun 0
          · rfl
          · have := (b0.1 hb).2
            rw [hf] at this
            cases this
        rw [e0'] at d0
        rw [et, hf] at eg
        simp at eg d1 d0
        omega
    · rw [en] at b0 b1
      have e0' : R.begun 0 = false := by
        cases hb : R.begun 0
        · rfl
        · exact absurd (b0.1 hb).1 (by omega)
      rw [e0'] at d0
      cases hf : R.fresh
      · rw [et, hf] at eg
        simp at eg d1 d0
        split at d1 <;> omega
      · have e1' : R.begun 1 = false := by
          cases hb : R.begun 1
          · rfl
          · have := (b1.1 hb).2
            rw [hf] at this
            cases this
        rw [e1'] at d1
        rw [et, hf] at eg
        simp at eg d1 d0
        omega
  clear d0 d1 eg
  obtain ⟨hg, p0, p1, u0, u1, v0, v1⟩ := hc
  generalize R.d 0 = x at *
  generalize R.d 1 = y at *
  rcases (by omega : q0 = 1 ∨ q0 = 2 ∨ q0 = 3 ∨ q0 = 4 ∨ q0 = 5 ∨ q0 = 6) with rfl | rfl | rfl | rfl | rfl | rfl <;> rcases (by omega : q1 = 1 ∨ q1 = 2 ∨ q1 = 3 ∨ q1 = 4 ∨ q1 = 5 ∨ q1 = 6) with rfl | rfl | rfl | rfl | rfl | rfl <;> omega
end Go.Proofs.Ytnfcmiiibkbmfaa
