/- Several picks, one behind the other: the plain mathematics. -/
import Derived.Test.YtnfcmiiibkbmfaaPkS4
namespace Go.Proofs.Ytnfcmiiibkbmfaa
open Go.RowKit
set_option linter.unusedVariables false
set_option linter.unusedSimpArgs false

/-- i picks, and their classes -/
inductive PickF : Nat → Rnd → Rnd → List Int → Prop
  | zero {R : Rnd} : PickF 0 R R []
  | next {i k : Nat} {R X Y : Rnd} {cs : List Int} {c : Nat} {s : Int} : PickF i R X cs → Picks k X Y c s → PickF (i + 1) R Y (cs ++ [((c : Nat) : Int)])
theorem PickF.len {i : Nat} {R X : Rnd} {cs : List Int} (h : PickF i R X cs) : cs.length = i := by
  induction h with
  | zero => rfl
  | next _ _ ih => simp [ih]
theorem PickF.ok {i : Nat} {R X : Rnd} {cs : List Int} (h : PickF i R X cs) (ho : R.Ok) : X.Ok ∧ X.nQ = R.nQ := by
  induction h with
  | zero => exact ⟨ho, rfl⟩
  | next _ hp ih =>
    obtain ⟨h1, h2⟩ := ih ho
    obtain ⟨h3, h4, _⟩ := hp.ok h1
    exact ⟨h3, h4.trans h2⟩
theorem PickF.fun_ {i : Nat} {R X : Rnd} {cs : List Int} (h : PickF i R X cs) : ∀ {Y : Rnd} {ds : List Int}, PickF i R Y ds → X = Y ∧ cs = ds := by
  induction h with
  | zero =>
    intro Y ds g
    cases g
    exact ⟨rfl, rfl⟩
  | next _ hp ih =>
    intro Y ds g
    cases g with
    | next g1 gp =>
      obtain ⟨rfl, rfl⟩ := ih g1
      obtain ⟨_, rfl, rfl, _⟩ := hp.fun_ gp
      exact ⟨rfl, rfl⟩
theorem turnR_L (R : Rnd) : (turnR R).L = R.L := rfl
theorem Picks.some {k : Nat} {R R' : Rnd} {c : Nat} {s : Int} (h : Picks k R R' c s) : R.Ok → ∃ i, i < R.nQ ∧ R.L i ≠ 0 := by
  induction h with
  | skip h0 _ ih =>
    intro ho
    obtain ⟨i, h1, h2⟩ := ih (turn_ok ho (fun hne => absurd h0 hne))
    exact ⟨i, h1, h2⟩
  | short h0 _ _ _ =>
    intro ho
    exact ⟨_, ho.now_lt, h0⟩
  | take h0 _ =>
    intro ho
    exact ⟨_, ho.now_lt, h0⟩
/-- where a run of picks that goes on is cut -/
theorem PickF.cut {j : Nat} {R Y : Rnd} {ds : List Int} (h : PickF j R Y ds) : ∀ {i : Nat}, i < j → ∃ X cs k Z c s, PickF i R X cs ∧ Picks k X Z c s := by
  induction h with
  | zero => intro i hi; omega
  | next h1 hp ih =>
    intro i hi
    rename_i i0 _ _ _ _ _ _ _
    by_cases e : i = i0
    · subst e; exact ⟨_, _, _, _, _, _, h1, hp⟩
    · exact ih (by omega)
def validA (R : Rnd) (n : Int) : Prop := R.Ok ∧ 0 ≤ n ∧ n ≤ 200
/-- what n picks answer -/
def PickA (R : Rnd) (n : Int) (M : Rnd) (cs : List Int) : Prop :=
  (¬ validA R n ∧ M = zR ∧ cs = []) ∨ (validA R n ∧ ∃ i : Nat, PickF i R M cs ∧ ((i : Int) = n ∨ (i : Int) < n ∧ ∀ j, j < M.nQ → M.L j = 0))
theorem pickF_far (R : Rnd) (ho : R.Ok) : ∀ (n : Nat), ∃ i M cs, PickF i R M cs ∧ (i = n ∨ i < n ∧ ∀ j, j < M.nQ → M.L j = 0)
  | 0 => ⟨0, R, [], .zero, .inl rfl⟩
  | n + 1 => by
    obtain ⟨i, M, cs, h, he⟩ := pickF_far R ho n
    rcases he with rfl | ⟨hi, hn⟩
    · by_cases hw : ∃ c0, c0 < M.nQ ∧ M.L c0 ≠ 0
      · obtain ⟨c0, h1, h2⟩ := hw
        obtain ⟨k, Y, c, s, hp⟩ := picks_ex c0 _ M rfl (h.ok ho).1 h1 h2
        exact ⟨i + 1, Y, _, h.next hp, .inl rfl⟩
      · refine ⟨i, M, cs, h, .inr ⟨by omega, fun j hj => ?_⟩⟩
        by_cases e : M.L j = 0
        · exact e
        · exact absurd ⟨j, hj, e⟩ hw
    · exact ⟨i, M, cs, h, .inr ⟨by omega, hn⟩⟩
theorem pickA_ex (R : Rnd) (n : Int) : ∃ M cs, PickA R n M cs := by
  by_cases hv : validA R n
  · obtain ⟨i, M, cs, h, he⟩ := pickF_far R hv.1 n.toNat
    have := hv.2
    exact ⟨M, cs, .inr ⟨hv, i, h, he.imp (fun e => by omega) (fun ⟨e1, e2⟩ => ⟨by omega, e2⟩)⟩⟩
  · exact ⟨zR, [], .inl ⟨hv, rfl, rfl⟩⟩
/-- at its end a run is the answer -/
theorem PickA.at_ {R M X : Rnd} {n : Int} {cs ds : List Int} {i : Nat} (h : PickA R n M cs) (hv : validA R n) (hf : PickF i R X ds) (he : (i : Int) = n ∨ (i : Int) < n ∧ ∀ j, j < X.nQ → X.L j = 0) : X = M ∧ ds = cs := by
  rcases h with ⟨hn, _⟩ | ⟨_, i2, hf2, he2⟩
  · exact absurd hv hn
  have key : ∀ {i j : Nat} {A B : Rnd} {es fs : List Int}, PickF i R A es → PickF j R B fs → i < j → (∀ k, k < A.nQ → A.L k = 0) → False := fun {i j A B es fs} h1 h2 hlt hn => by
    obtain ⟨X, cs, k, Z, c, s, h3, h4⟩ := h2.cut hlt
    obtain ⟨rfl, rfl⟩ := h1.fun_ h3
    obtain ⟨q, hq1, hq2⟩ := h4.some (h1.ok hv.1).1
    exact hq2 (hn q hq1)
  have hi : i = i2 := by
    rcases he with e | ⟨e, hn⟩
    · rcases he2 with e2 | ⟨e2, hn2⟩
      · omega
      · exact (key hf2 hf (by omega) hn2).elim
    · rcases he2 with e2 | ⟨e2, hn2⟩
      · exact (key hf hf2 (by omega) hn).elim
      · rcases Nat.lt_trichotomy i i2 with h1 | h1 | h1
        · exact (key hf hf2 h1 hn).elim
        · exact h1
        · exact (key hf2 hf h1 hn2).elim
  subst hi
  exact hf.fun_ hf2
theorem PickA.len {R M : Rnd} {n : Int} {cs : List Int} (h : PickA R n M cs) : cs.length ≤ 200 := by
  rcases h with ⟨_, _, rfl⟩ | ⟨hv, i, hf, he⟩
  · simp
  · rw [hf.len]
    have := hv.2.2
    rcases he with e | ⟨e, _⟩ <;> omega
theorem PickF.like {i : Nat} {R X : Rnd} {cs : List Int} (h : PickF i R X cs) : ∀ {B : Rnd}, Alike R B → ∃ Y, PickF i B Y cs ∧ Alike X Y := by
  induction h with
  | zero => intro B hB; exact ⟨B, .zero, hB⟩
  | next _ hp ih =>
    intro B hB
    obtain ⟨Y, h1, h2⟩ := ih hB
    obtain ⟨Z, h3, h4⟩ := hp.like h2
    exact ⟨Z, h1.next h3, h4⟩
theorem PickA.like {R M B : Rnd} {n : Int} {cs : List Int} (h : PickA R n M cs) (ha : Alike R B) : ∃ M', PickA B n M' cs ∧ Alike M M' := by
  rcases h with ⟨hn, rfl, rfl⟩ | ⟨hv, i, hf, he⟩
  · exact ⟨zR, .inl ⟨fun hb => hn ⟨ha.okI.1 hb.1, hb.2⟩, rfl, rfl⟩, Alike.refl _⟩
  · obtain ⟨Y, h1, h2⟩ := hf.like ha
    exact ⟨Y, .inr ⟨⟨ha.okI.2 hv.1, hv.2⟩, i, h1, he.imp id (fun ⟨e1, e2⟩ => ⟨e1, fun j hj => by rw [h2.l]; exact e2 j (by rw [← h2.nQ]; exact hj)⟩)⟩, h2⟩
/-- the next pick of a run, or its end -/
theorem pick_step {R X : Rnd} {ds : List Int} {i : Nat} (ho : R.Ok) (hf : PickF i R X ds) : (∃ k Y c s, Picks k X Y c s ∧ PickF (i + 1) R Y (ds ++ [((c : Nat) : Int)]) ∧ ∃ c0, c0 < X.nQ ∧ X.L c0 ≠ 0) ∨ ∀ j, j < X.nQ → X.L j = 0 := by
  by_cases hw : ∃ c0, c0 < X.nQ ∧ X.L c0 ≠ 0
  · obtain ⟨c0, h1, h2⟩ := hw
    obtain ⟨k, Y, c, s, hp⟩ := picks_ex c0 _ X rfl (hf.ok ho).1 h1 h2
    exact .inl ⟨k, Y, c, s, hp, hf.next hp, c0, h1, h2⟩
  · refine .inr fun j hj => ?_
    by_cases e : X.L j = 0
    · exact e
    · exact absurd ⟨j, hj, e⟩ hw
end Go.Proofs.Ytnfcmiiibkbmfaa
