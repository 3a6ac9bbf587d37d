/- Each cell is free or in just one chain, plainly. -/
import Derived.Test.YthkkogpegmmbdaaArPath2
namespace Go.Proofs.Ythkkogpegmmbdaa
open Go.RowKit
set_option linter.unusedVariables false

open Classical in
noncomputable def bOf (p : Prop) : Bool := decide p
theorem bOf_iff (p : Prop) : bOf p = true ↔ p := by
  unfold bOf
  simp

section Part
variable {n : Nat} {nx : Nat → Int} {dt : Nat → ByteArray} {fr : Int} {L : List Int}
/-- the chain from i on, if one begins there -/
noncomputable def chL (n : Nat) (nx : Nat → Int) (dt : Nat → ByteArray) (fr : Int) (i : Nat) : List Int := freeL (bOf (chainP n n nx dt fr i)) n nx i
/-- how often cell j was met: in the free ones, and in the chains from below i -/
noncomputable def seenN (n : Nat) (nx : Nat → Int) (dt : Nat → ByteArray) (fr : Int) (L : List Int) (i j : Nat) : Nat := L.count (j : Int) + ((List.range i).map fun c => (chL n nx dt fr c).count (j : Int)).sum
theorem seenN_zero (j : Nat) : seenN n nx dt fr L 0 j = L.count (j : Int) := by simp [seenN]
theorem seenN_succ (i j : Nat) : seenN n nx dt fr L (i + 1) j = seenN n nx dt fr L i j + (chL n nx dt fr i).count (j : Int) := by
  unfold seenN
  rw [List.range_succ, List.map_append, List.sum_append]
  simp
  omega
theorem count_snoc (L : List Int) (k : Nat) (h : k < L.length) (x : Int) : (L.take (k + 1)).count x = (L.take k).count x + if x = L[k] then 1 else 0 := by
  rw [List.take_succ_eq_append_getElem h, List.count_append]
  congr 1
  by_cases e : x = L[k]
  · subst e; simp
  · rw [if_neg e, List.count_singleton]
    simp
    exact fun h => e h.symm
theorem sum_none {f : Nat → Nat} : ∀ (n : Nat), (∀ c, c < n → f c = 0) → ((List.range n).map f).sum = 0
  | 0, _ => rfl
  | n + 1, h => by
    rw [List.range_succ, List.map_append, List.sum_append, sum_none n (fun c hc => h c (by omega))]
    simp [h n (by omega)]
theorem sum_one {f : Nat → Nat} {c0 : Nat} : ∀ (n : Nat), c0 < n → f c0 = 1 → (∀ c, c < n → c ≠ c0 → f c = 0) → ((List.range n).map f).sum = 1
  | n + 1, h0, h1, h => by
    rw [List.range_succ, List.map_append, List.sum_append]
    by_cases e : c0 = n
    · rw [sum_none n (fun c hc => h c (by omega) (by omega))]
      subst e
      simp [h1]
    · rw [sum_one n (by omega) h1 (fun c hc => h c (by omega))]
      simp [h n (by omega) (fun e2 => e e2.symm)]
theorem Right.fwd (h : Right n nx dt fr L) {z : Int} (hz : z ∈ L) : nx z.toNat = -1 ∨ nx z.toNat ∈ L := by
  obtain ⟨P, Q, e, q⟩ := h.free.sub hz
  cases Q with
  | nil => left; exact q.2.2
  | cons x xs => right; rw [q.2.2.1, e]; simp
theorem Right.back (h : Right n nx dt fr L) (j : Int) : ∀ (k : Nat) (y : Int) (P : List Int), 0 ≤ y → y < n → y ∉ L → Path nx y P → j ∈ P → P.length + k = n → ∃ c C, headP n nx dt c ∧ Path nx c C ∧ j ∈ C := by
  intro k
  induction k with
  | zero =>
    intro y P y0 y1 yL p hj hk
    by_cases hp : ∃ z, z < n ∧ nx z = y
    · obtain ⟨z, hz, e⟩ := hp
      have pz : Path nx z (z :: P) := ⟨rfl, by omega, by rw [Int.toNat_natCast, e]; exact p⟩
      have hl := h.len (by omega) pz
      simp at hl
      omega
    · refine ⟨y, P, ⟨y0, y1, fun e => yL ?_, fun i hi e => hp ⟨i, hi, e⟩⟩, p, hj⟩
      have := (h.data y.toNat (by omega)).1.2 e
      rwa [Int.toNat_of_nonneg y0] at this
  | succ k ih =>
    intro y P y0 y1 yL p hj hk
    by_cases hp : ∃ z, z < n ∧ nx z = y
    · obtain ⟨z, hz, e⟩ := hp
      have pz : Path nx z (z :: P) := ⟨rfl, by omega, by rw [Int.toNat_natCast, e]; exact p⟩
      refine ih z (z :: P) (by omega) (by omega) (fun hm => ?_) pz (by simp [hj]) (by simp; omega)
      rcases h.fwd hm with e2 | e2
      · rw [Int.toNat_natCast] at e2; omega
      · rw [Int.toNat_natCast, e] at e2; exact yL e2
    · refine ⟨y, P, ⟨y0, y1, fun e => yL ?_, fun i hi e => hp ⟨i, hi, e⟩⟩, p, hj⟩
      have := (h.data y.toNat (by omega)).1.2 e
      rwa [Int.toNat_of_nonneg y0] at this
theorem chL_head (h : Right n nx dt fr L) {c : Nat} (hh : headP n nx dt c) : Path nx (c : Int) (chL n nx dt fr c) := by
  have e : bOf (chainP n n nx dt fr c) = true := (bOf_iff _).2 ⟨h.ok, hh⟩
  unfold chL freeL
  rw [e, if_pos rfl]
  exact h.chain hh
theorem chL_none {c : Nat} (hh : ¬ headP n nx dt c) : chL n nx dt fr c = [] := by
  have e : bOf (chainP n n nx dt fr c) = false := by
    cases hb : bOf (chainP n n nx dt fr c)
    · rfl
    · exact absurd ((bOf_iff _).1 hb).2 hh
  unfold chL freeL
  rw [e]
  rfl
theorem chL_range (h : Right n nx dt fr L) (c : Nat) : ∀ x ∈ chL n nx dt fr c, 0 ≤ x ∧ x < n := by
  by_cases hh : headP n nx dt c
  · exact (chL_head h hh).range h.inj.rng hh.2.1
  · rw [chL_none hh]; simp
theorem chL_len (c : Nat) : (chL n nx dt fr c).length ≤ n := freeL_len _ _ _ _
theorem seen_le (hL : L.length ≤ 60) (hc : ∀ c, (chL n nx dt fr c).length ≤ 60) (j : Nat) : ∀ k, seenN n nx dt fr L k j ≤ 60 + k * 60
  | 0 => by
    rw [seenN_zero]
    have := List.count_le_length (a := (j : Int)) (l := L)
    omega
  | k + 1 => by
    rw [seenN_succ]
    have h1 := seen_le hL hc j k
    have h2 := List.count_le_length (a := (j : Int)) (l := chL n nx dt fr k)
    have h3 := hc k
    omega
theorem seen_all (h : Right n nx dt fr L) {j : Nat} (hj : j < n) : seenN n nx dt fr L n j = 1 := by
  unfold seenN
  by_cases hm : (j : Int) ∈ L
  · rw [sum_none, List.Nodup.count h.free.nodup, if_pos hm]
    intro c hc
    rw [List.count_eq_zero]
    intro hx
    by_cases hh : headP n nx dt c
    · exact h.headOut hh (chL_head h hh) _ hx hm
    · rw [chL_none hh] at hx; simp at hx
  · rw [List.count_eq_zero.2 hm]
    obtain ⟨P, p⟩ := h.paths j hj
    obtain ⟨xs, e1⟩ := p.first (by omega)
    have hl := h.len (by omega) p
    obtain ⟨c, C, hh, q, hjC⟩ := h.back j (n - P.length) j P (by omega) (by omega) hm p (by rw [e1]; simp) (by omega)
    obtain ⟨c', rfl⟩ := Int.eq_ofNat_of_zero_le hh.1
    have hc' : c' < n := by have := hh.2.1; omega
    have q' := chL_head h hh
    have eC := q.uniq q'
    subst eC
    rw [sum_one (c0 := c') n hc' (by rw [List.Nodup.count q.nodup, if_pos hjC]) (fun d hd hne => ?_)]
    rw [List.count_eq_zero]
    intro hx
    by_cases hd' : headP n nx dt d
    · have qd := chL_head h hd'
      have hno := headOther h hd' qd hh (by omega)
      exact q.stay h.inj.rng _ (h.headBack hd' qd) hh.2.1 hno _ hjC hx
    · rw [chL_none hd'] at hx; simp at hx
end Part
end Go.Proofs.Ythkkogpegmmbdaa
