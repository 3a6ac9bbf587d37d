/- What is picked from a round: the plain mathematics. -/
import Derived.Test.YtnfcmiiibkbmfaaRn
namespace Go.Proofs.Ytnfcmiiibkbmfaa
open Go.RowKit
set_option linter.unusedVariables false
set_option linter.unusedSimpArgs false

def updI (f : Nat → Int) (c : Nat) (x : Int) (i : Nat) : Int := if i = c then x else f i
def updN (f : Nat → Nat) (c : Nat) (x : Nat) (i : Nat) : Nat := if i = c then x else f i
def updZ (z : Nat → Nat → Int) (c : Nat) (y : Nat → Int) (i : Nat) : Nat → Int := if i = c then y else z i
theorem updI_self (f : Nat → Int) (c : Nat) (x : Int) : updI f c x c = x := if_pos rfl
theorem updI_ne {f : Nat → Int} {c : Nat} {x : Int} {i : Nat} (h : i ≠ c) : updI f c x i = f i := if_neg h
theorem updN_self (f : Nat → Nat) (c : Nat) (x : Nat) : updN f c x c = x := if_pos rfl
theorem updN_ne {f : Nat → Nat} {c : Nat} {x : Nat} {i : Nat} (h : i ≠ c) : updN f c x i = f i := if_neg h
theorem updZ_self (z : Nat → Nat → Int) (c : Nat) (y : Nat → Int) : updZ z c y c = y := if_pos rfl
theorem updZ_ne {z : Nat → Nat → Int} {c : Nat} {y : Nat → Int} {i : Nat} (h : i ≠ c) : updZ z c y i = z i := if_neg h
/-- whose turn it is -/
def Rnd.now (R : Rnd) : Nat := R.turn.toNat
/-- the next class's turn -/
def turnR (R : Rnd) : Rnd := { R with turn := (((R.now + 1) % R.nQ : Nat) : Int), fresh := true }
/-- its quantum, once a turn -/
def grantR (R : Rnd) : Rnd := if R.fresh = true then { R with d := updI R.d R.now (R.d R.now + R.q R.now), fresh := false } else R
/-- the first of the class whose turn it is, taken -/
def tookR (R : Rnd) : Rnd := { R with d := updI R.d R.now (R.d R.now - R.z R.now 0), L := updN R.L R.now (R.L R.now - 1), z := updZ R.z R.now (fun j => R.z R.now (j + 1)) }
def takeR (R : Rnd) : Rnd := if R.L R.now = 1 then turnR { tookR R with d := updI R.d R.now 0 } else tookR R
/-- what is picked, after k turns that picked nothing -/
inductive Picks : Nat → Rnd → Rnd → Nat → Int → Prop
  | skip {k : Nat} {R R' : Rnd} {c : Nat} {s : Int} : R.L R.now = 0 → Picks k (turnR R) R' c s → Picks (k + 1) R R' c s
  | short {k : Nat} {R R' : Rnd} {c : Nat} {s : Int} : R.L R.now ≠ 0 → (grantR R).d R.now < R.z R.now 0 → Picks k (turnR (grantR R)) R' c s → Picks (k + 1) R R' c s
  | take {R : Rnd} : R.L R.now ≠ 0 → R.z R.now 0 ≤ (grantR R).d R.now → Picks 0 R (takeR (grantR R)) R.now (R.z R.now 0)
theorem Picks.fun_ {k : Nat} {R R1 : Rnd} {c1 : Nat} {s1 : Int} (h : Picks k R R1 c1 s1) : ∀ {k2 : Nat} {R2 : Rnd} {c2 : Nat} {s2 : Int}, Picks k2 R R2 c2 s2 → k = k2 ∧ R1 = R2 ∧ c1 = c2 ∧ s1 = s2 := by
  induction h with
  | skip h0 _ ih =>
    intro k2 R2 c2 s2 g
    cases g with
    | skip _ g1 => obtain ⟨a, b, c, d⟩ := ih g1; exact ⟨by omega, b, c, d⟩
    | short g0 _ _ => exact absurd h0 g0
    | take g0 _ => exact absurd h0 g0
  | short h0 h1 _ ih =>
    intro k2 R2 c2 s2 g
    cases g with
    | skip g0 _ => exact absurd g0 h0
    | short _ _ g1 => obtain ⟨a, b, c, d⟩ := ih g1; exact ⟨by omega, b, c, d⟩
    | take _ g1 => omega
  | take h0 h1 =>
    intro k2 R2 c2 s2 g
    cases g with
    | skip g0 _ => exact absurd g0 h0
    | short _ g1 _ => omega
    | take _ _ => exact ⟨rfl, rfl, rfl, rfl⟩
theorem grantR_L (R : Rnd) : (grantR R).L = R.L := by unfold grantR; split <;> rfl
theorem grantR_z (R : Rnd) : (grantR R).z = R.z := by unfold grantR; split <;> rfl
theorem grantR_q (R : Rnd) : (grantR R).q = R.q := by unfold grantR; split <;> rfl
theorem grantR_nQ (R : Rnd) : (grantR R).nQ = R.nQ := by unfold grantR; split <;> rfl
theorem grantR_turn (R : Rnd) : (grantR R).turn = R.turn := by unfold grantR; split <;> rfl
theorem grantR_now (R : Rnd) : (grantR R).now = R.now := by unfold Rnd.now; rw [grantR_turn]
theorem grantR_ne {R : Rnd} {i : Nat} (h : i ≠ R.now) : (grantR R).d i = R.d i := by
  unfold grantR
  split
  · exact updI_ne h
  · rfl
theorem grantR_fresh (R : Rnd) : (grantR R).fresh = false := by
  unfold grantR
  split
  · rfl
  · rename_i h; simpa using h
theorem grantR_now_d (R : Rnd) : (grantR R).d R.now = if R.fresh = true then R.d R.now + R.q R.now else R.d R.now := by
  unfold grantR
  split
  · exact updI_self _ _ _
  · rfl
theorem Rnd.Ok.now_lt {R : Rnd} (h : R.Ok) : R.now < R.nQ := by
  unfold Rnd.now
  have := h.t
  omega
theorem turnR_now (R : Rnd) : (turnR R).now = (R.now + 1) % R.nQ := by
  show (((((R.now + 1) % R.nQ : Nat) : Int))).toNat = _
  exact Int.toNat_natCast _
theorem begun_of {R : Rnd} (h : R.Ok) (i : Nat) : R.begun i = true ↔ i = R.now ∧ R.fresh = false := by
  unfold Rnd.begun Rnd.now
  have := h.t
  simp only [Bool.and_eq_true, decide_eq_true_eq, Bool.not_eq_true']
  constructor
  · rintro ⟨a, b⟩; exact ⟨by omega, b⟩
  · rintro ⟨a, b⟩; exact ⟨by omega, b⟩
theorem begun_fresh {R : Rnd} (h : R.fresh = true) (i : Nat) : R.begun i = false := by simp [Rnd.begun, h]
/-- a class that has had its turn and picked nothing waits as any other -/
theorem turn_ok {R : Rnd} (h : R.Ok) (hl : R.L R.now ≠ 0 → R.d R.now < 5) : (turnR R).Ok := by
  have hn := h.n
  refine ⟨h.n, h.d, h.s, ⟨by show (0 : Int) ≤ (((R.now + 1) % R.nQ : Nat) : Int); exact Int.natCast_nonneg _, ?_⟩, fun i hi => ?_⟩
  · show (((R.now + 1) % R.nQ : Nat) : Int) < R.nQ
    have := Nat.mod_lt (R.now + 1) (show R.nQ > 0 by omega)
    omega
  · obtain ⟨h1, h2, h3⟩ := h.c i hi
    refine ⟨h1, h2, ?_⟩
    rw [begun_fresh (R := turnR R) rfl]
    show defP (R.q i) (R.d i) (R.L i) false
    unfold defP at h3 ⊢
    by_cases e : R.L i = 0
    · rw [if_pos e] at h3 ⊢; exact h3
    · rw [if_neg e] at h3 ⊢
      by_cases e2 : i = R.now
      · subst e2
        have := hl e
        simp
        exact ⟨h3.1, by omega⟩
      · have : R.begun i = false := by
          cases hb : R.begun i
          · rfl
          · exact absurd ((begun_of h i).1 hb).1 e2
        rw [this] at h3
        exact h3
theorem grant_ok {R : Rnd} (h : R.Ok) (hl : R.L R.now ≠ 0) : (grantR R).Ok := by
  have hn := h.now_lt
  by_cases hf : R.fresh = true
  · have e : grantR R = { R with d := updI R.d R.now (R.d R.now + R.q R.now), fresh := false } := by unfold grantR; rw [if_pos hf]
    rw [e]
    refine ⟨h.n, h.d, h.s, h.t, fun i hi => ?_⟩
    obtain ⟨h1, h2, h3⟩ := h.c i hi
    refine ⟨h1, h2, ?_⟩
    rw [begun_fresh hf] at h3
    show defP (R.q i) (updI R.d R.now (R.d R.now + R.q R.now) i) (R.L i) _
    unfold defP at h3 ⊢
    by_cases e0 : R.L i = 0
    · rw [if_pos e0] at h3 ⊢
      have : i ≠ R.now := fun e => hl (by rw [← e]; exact e0)
      rw [updI_ne this]; exact h3
    · rw [if_neg e0] at h3 ⊢
      by_cases e2 : i = R.now
      · subst e2
        rw [updI_self]
        have hb : Rnd.begun { R with d := updI R.d R.now (R.d R.now + R.q R.now), fresh := false } R.now = true := by
          unfold Rnd.begun Rnd.now
          have := h.t
          simp
          omega
        rw [hb]
        simp at h3 ⊢
        omega
      · rw [updI_ne e2]
        have hb : Rnd.begun { R with d := updI R.d R.now (R.d R.now + R.q R.now), fresh := false } i = false := by
          unfold Rnd.begun
          have h9 := h.t
          have : ¬ ((i : Int) = R.turn) := by unfold Rnd.now at e2; omega
          simp [this]
        rw [hb]
        exact h3
  · have e : grantR R = R := by unfold grantR; rw [if_neg hf]
    rw [e]; exact h
theorem took_ok {R : Rnd} (h : R.Ok) (hf : R.fresh = false) (hl : R.L R.now ≠ 0) (hd : R.z R.now 0 ≤ R.d R.now) : (takeR R).Ok := by
  have hn := h.now_lt
  obtain ⟨hq, hz, hdef⟩ := h.c R.now hn
  have hz0 := hz.2 0 (by omega)
  have hd5 : 0 ≤ R.d R.now ∧ R.d R.now < 5 + R.q R.now := by
    have hb : R.begun R.now = true := (begun_of h R.now).2 ⟨rfl, hf⟩
    unfold defP at hdef
    rw [if_neg hl, hb] at hdef
    simpa using hdef
  have hsz : ∀ i, i < R.nQ → sizesP (updN R.L R.now (R.L R.now - 1) i) (updZ R.z R.now (fun j => R.z R.now (j + 1)) i) := fun i hi => by
    by_cases e : i = R.now
    · subst e
      rw [updN_self, updZ_self]
      exact ⟨by have := hz.1; omega, fun j hj => hz.2 (j + 1) (by omega)⟩
    · rw [updN_ne e, updZ_ne e]
      exact (h.c i hi).2.1
  have hbn : ∀ i, i ≠ R.now → R.begun i = false := fun i e => by
    cases hb : R.begun i
    · rfl
    · exact absurd ((begun_of h i).1 hb).1 e
  unfold takeR
  by_cases h1 : R.L R.now = 1
  · rw [if_pos h1]
    refine ⟨h.n, h.d, h.s, ⟨by show (0 : Int) ≤ (((R.now + 1) % R.nQ : Nat) : Int); exact Int.natCast_nonneg _, ?_⟩, fun i hi => ⟨(h.c i hi).1, hsz i hi, ?_⟩⟩
    · show (((R.now + 1) % R.nQ : Nat) : Int) < R.nQ
      have := Nat.mod_lt (R.now + 1) (show R.nQ > 0 by omega)
      omega
    · rw [begun_fresh (by rfl)]
      show defP (R.q i) (updI R.d R.now 0 i) (updN R.L R.now (R.L R.now - 1) i) false
      by_cases e : i = R.now
      · subst e
        rw [updI_self, updN_self]
        unfold defP
        rw [if_pos (by omega)]
      · rw [updI_ne e, updN_ne e]
        have := (h.c i hi).2.2
        rw [hbn i e] at this
        exact this
  · rw [if_neg h1]
    refine ⟨h.n, h.d, h.s, h.t, fun i hi => ⟨(h.c i hi).1, hsz i hi, ?_⟩⟩
    show defP (R.q i) (updI R.d R.now (R.d R.now - R.z R.now 0) i) (updN R.L R.now (R.L R.now - 1) i) (R.begun i)
    by_cases e : i = R.now
    · subst e
      rw [updI_self, updN_self, (begun_of h R.now).2 ⟨rfl, hf⟩]
      unfold defP
      rw [if_neg (by omega)]
      simp
      omega
    · rw [updI_ne e, updN_ne e]
      exact (h.c i hi).2.2
theorem Picks.ok {k : Nat} {R R' : Rnd} {c : Nat} {s : Int} (h : Picks k R R' c s) : R.Ok → R'.Ok ∧ R'.nQ = R.nQ ∧ c < R.nQ ∧ 1 ≤ s ∧ s ≤ 5 := by
  induction h with
  | skip h0 _ ih =>
    intro ho
    exact ih (turn_ok ho (fun e => absurd h0 e))
  | short h0 h1 _ ih =>
    rename_i R0 _ _ _ _
    intro ho
    have hg := grant_ok ho h0
    have hz := ((ho.c R0.now ho.now_lt).2.1).2 0 (by omega)
    have h2 := ih (turn_ok hg (fun _ => by rw [grantR_now]; omega))
    have e : (turnR (grantR R0)).nQ = R0.nQ := grantR_nQ R0
    rw [e] at h2
    exact h2
  | take h0 h1 =>
    rename_i R0
    intro ho
    have hg := grant_ok ho h0
    have hz := ((ho.c R0.now ho.now_lt).2.1).2 0 (by omega)
    refine ⟨took_ok hg (grantR_fresh R0) (by rw [grantR_L, grantR_now]; exact h0) (by rw [grantR_z, grantR_now]; exact h1), ?_, ho.now_lt, hz.1, hz.2⟩
    unfold takeR
    split <;> exact grantR_nQ R0
/-- how far the turn is from class c -/
def farR (R : Rnd) (c : Nat) : Nat := if R.now = c then (if R.fresh = true then 0 else R.nQ) else (c + R.nQ - R.now) % R.nQ
def leftR (R : Rnd) (c : Nat) : Nat := (5 - R.d c).toNat * R.nQ + farR R c
theorem far_turn {R : Rnd} {c : Nat} (hn : R.now < R.nQ) (hc : c < R.nQ) : farR (turnR R) c + 1 ≤ (if R.now = c then R.nQ else farR R c) := by
  have e1 : (turnR R).now = (R.now + 1) % R.nQ := turnR_now R
  have e2 : (turnR R).fresh = true := rfl
  have e3 : (turnR R).nQ = R.nQ := rfl
  unfold farR
  rw [e1, e2, e3]
  by_cases hw : R.now + 1 = R.nQ
  · rw [hw, Nat.mod_self]
    by_cases ec : R.now = c
    · rw [if_pos ec]
      by_cases e0 : 0 = c
      · rw [if_pos e0]; simp; omega
      · rw [if_neg e0, Nat.mod_eq_sub_mod (by omega), show c + R.nQ - 0 - R.nQ = c by omega, Nat.mod_eq_of_lt hc]; omega
    · rw [if_neg ec, if_neg ec]
      by_cases e0 : 0 = c
      · rw [if_pos e0]
        simp
        rw [show c + R.nQ - R.now = 1 by omega, Nat.mod_eq_of_lt (by omega)]
        exact Nat.le_refl _
      · rw [if_neg e0, Nat.mod_eq_sub_mod (by omega), show c + R.nQ - 0 - R.nQ = c by omega, Nat.mod_eq_of_lt hc, show c + R.nQ - R.now = c + 1 by omega, Nat.mod_eq_of_lt (by omega)]
        exact Nat.le_refl _
  · have hm : (R.now + 1) % R.nQ = R.now + 1 := Nat.mod_eq_of_lt (by omega)
    rw [hm]
    by_cases ec : R.now = c
    · rw [if_pos ec, if_neg (by omega), show c + R.nQ - (R.now + 1) = R.nQ - 1 by omega, Nat.mod_eq_of_lt (by omega)]
      omega
    · rw [if_neg ec, if_neg ec]
      by_cases e1 : R.now + 1 = c
      · rw [if_pos e1]
        simp
        rw [show c + R.nQ - R.now = 1 + R.nQ by omega, Nat.add_mod_right, Nat.mod_eq_of_lt (by omega)]
        exact Nat.le_refl _
      · rw [if_neg e1]
        by_cases hlt : c < R.now
        · rw [Nat.mod_eq_of_lt (by omega), Nat.mod_eq_of_lt (by omega)]
          omega
        · rw [Nat.mod_eq_sub_mod (by omega), Nat.mod_eq_of_lt (by omega), Nat.mod_eq_sub_mod (a := c + R.nQ - R.now) (by omega), Nat.mod_eq_of_lt (by omega)]
          omega
theorem picks_ex (c : Nat) : ∀ (m : Nat) (R : Rnd), leftR R c = m → R.Ok → c < R.nQ → R.L c ≠ 0 → ∃ k R' x s, Picks k R R' x s := by
  intro m
  induction m using Nat.strongRecOn with
  | ind m ih =>
    intro R hm ho hc hl
    have hn := ho.now_lt
    by_cases h0 : R.L R.now = 0
    · have hne : R.now ≠ c := fun e => hl (by rw [← e]; exact h0)
      have hf := far_turn hn hc
      rw [if_neg hne] at hf
      have hlt : leftR (turnR R) c < m := by
        rw [← hm]
        show (5 - R.d c).toNat * R.nQ + farR (turnR R) c < (5 - R.d c).toNat * R.nQ + farR R c
        omega
      obtain ⟨k, R', x, s, hp⟩ := ih _ hlt (turnR R) rfl (turn_ok ho (fun e => absurd h0 e)) hc hl
      exact ⟨k + 1, R', x, s, .skip h0 hp⟩
    · by_cases h1 : R.z R.now 0 ≤ (grantR R).d R.now
      · exact ⟨0, _, _, _, .take h0 h1⟩
      · have hg := grant_ok ho h0
        have hz := ((ho.c R.now hn).2.1).2 0 (by omega)
        have hq := (ho.c R.now hn).1
        have hgn : (grantR R).now < (grantR R).nQ := hg.now_lt
        have hf := far_turn (R := grantR R) (c := c) hgn (by rw [grantR_nQ]; exact hc)
        rw [grantR_now, grantR_nQ] at hf
        have hlt : leftR (turnR (grantR R)) c < m := by
          rw [← hm]
          show (5 - (grantR R).d c).toNat * (grantR R).nQ + farR (turnR (grantR R)) c < (5 - R.d c).toNat * R.nQ + farR R c
          rw [grantR_nQ]
          by_cases e : R.now = c
          · rw [if_pos e] at hf
            subst e
            have hd := grantR_now_d R
            unfold farR at *
            rw [if_pos rfl]
            by_cases hfr : R.fresh = true
            · rw [if_pos hfr] at hd ⊢
              obtain ⟨a, ha⟩ : ∃ a, (5 - R.d R.now).toNat = (5 - (grantR R).d R.now).toNat + 1 + a := ⟨(5 - R.d R.now).toNat - ((5 - (grantR R).d R.now).toNat + 1), by omega⟩
              rw [ha, Nat.add_mul, Nat.add_mul, Nat.one_mul]
              omega
            · rw [if_neg hfr] at hd ⊢
              rw [hd]
              omega
          · rw [if_neg e] at hf
            have hfe : farR (grantR R) c = farR R c := by
              unfold farR
              rw [grantR_now, grantR_nQ, if_neg e, if_neg e]
            rw [hfe] at hf
            rw [grantR_ne (fun e2 => e e2.symm)]
            omega
        obtain ⟨k, R', x, s, hp⟩ := ih _ hlt (turnR (grantR R)) rfl (turn_ok hg (fun _ => by rw [grantR_now]; omega)) (by show c < (grantR R).nQ; rw [grantR_nQ]; exact hc) (by show (grantR R).L c ≠ 0; rw [grantR_L]; exact hl)
        exact ⟨k + 1, R', x, s, .short h0 (by omega) hp⟩
/-- a class's turn that picks nothing brings the turn of class c nearer -/
theorem left_skip {R : Rnd} {c : Nat} (ho : R.Ok) (hc : c < R.nQ) (hl : R.L c ≠ 0) (h0 : R.L R.now = 0) : leftR (turnR R) c < leftR R c := by
  have hne : R.now ≠ c := fun e => hl (by rw [← e]; exact h0)
  have hf := far_turn ho.now_lt hc
  rw [if_neg hne] at hf
  show (5 - R.d c).toNat * R.nQ + farR (turnR R) c < (5 - R.d c).toNat * R.nQ + farR R c
  omega
theorem left_short {R : Rnd} {c : Nat} (ho : R.Ok) (hc : c < R.nQ) (h0 : R.L R.now ≠ 0) (h1 : (grantR R).d R.now < R.z R.now 0) : leftR (turnR (grantR R)) c < leftR R c := by
  have hn := ho.now_lt
  have hg := grant_ok ho h0
  have hz := ((ho.c R.now hn).2.1).2 0 (by omega)
  have hq := (ho.c R.now hn).1
  have hf := far_turn (R := grantR R) (c := c) hg.now_lt (by rw [grantR_nQ]; exact hc)
  rw [grantR_now, grantR_nQ] at hf
  show (5 - (grantR R).d c).toNat * (grantR R).nQ + farR (turnR (grantR R)) c < (5 - R.d c).toNat * R.nQ + farR R c
  rw [grantR_nQ]
  by_cases e : R.now = c
  · rw [if_pos e] at hf
    subst e
    have hd := grantR_now_d R
    unfold farR at *
    rw [if_pos rfl]
    by_cases hfr : R.fresh = true
    · rw [if_pos hfr] at hd ⊢
      obtain ⟨a, ha⟩ : ∃ a, (5 - R.d R.now).toNat = (5 - (grantR R).d R.now).toNat + 1 + a := ⟨(5 - R.d R.now).toNat - ((5 - (grantR R).d R.now).toNat + 1), by omega⟩
      rw [ha, Nat.add_mul, Nat.add_mul, Nat.one_mul]
      omega
    · rw [if_neg hfr] at hd ⊢
      rw [hd]
      omega
  · rw [if_neg e] at hf
    have hfe : farR (grantR R) c = farR R c := by
      unfold farR
      rw [grantR_now, grantR_nQ, if_neg e, if_neg e]
    rw [hfe] at hf
    rw [grantR_ne (fun e2 => e e2.symm)]
    omega
end Go.Proofs.Ytnfcmiiibkbmfaa
