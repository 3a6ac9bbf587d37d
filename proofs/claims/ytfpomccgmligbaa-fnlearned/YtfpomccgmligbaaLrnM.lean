/- A table that learns: the plain mathematics. -/
import Derived.Test.YtfpomccgmligbaaAged
namespace Go.Proofs.Ytfpomccgmligbaa
open Go.RowKit
set_option linter.unusedVariables false
set_option linter.unusedSimpArgs false

def pickO : Option Ent → Ent → Option Ent
  | none, e => some e
  | some b, e => some (if e.t < b.t then e else b)
/-- of the oldest the first -/
def bestO (L : List Ent) : Option Ent := L.foldl pickO none
theorem bestO_snoc (L : List Ent) (e : Ent) : bestO (L ++ [e]) = pickO (bestO L) e := by simp [bestO]
theorem fold_mem {z : Ent} : ∀ (L : List Ent) (o : Option Ent), L.foldl pickO o = some z → z ∈ L ∨ o = some z
  | [], o, h => .inr h
  | y :: r, o, h => by
    rcases fold_mem r (pickO o y) h with h1 | h1
    · exact .inl (List.mem_cons_of_mem _ h1)
    · cases o with
      | none => simp [pickO] at h1; exact .inl (by rw [← h1]; simp)
      | some b =>
        simp only [pickO, Option.some.injEq] at h1
        split at h1
        · exact .inl (by rw [← h1]; simp)
        · exact .inr (by rw [h1])
theorem bestO_mem {L : List Ent} {z : Ent} (h : bestO L = some z) : z ∈ L := by
  rcases fold_mem L none h with h1 | h1
  · exact h1
  · cases h1
theorem bestO_some : ∀ (L : List Ent) (b : Ent), ∃ z, L.foldl pickO (some b) = some z
  | [], b => ⟨b, rfl⟩
  | y :: r, b => bestO_some r _
def oldE (L : List Ent) : Ent := (bestO L).getD default
theorem oldE_mem {L : List Ent} (h : L ≠ []) : oldE L ∈ L ∧ bestO L = some (oldE L) := by
  cases L with
  | nil => exact absurd rfl h
  | cons y r =>
    obtain ⟨z, hz⟩ := bestO_some r y
    have hb : bestO (y :: r) = some z := hz
    unfold oldE
    rw [hb]
    exact ⟨bestO_mem hb, rfl⟩
def learnedL (L : List Ent) (x : Ent) : List Ent := if (notM x.m L).length = 8 then insE x (notM (oldE (notM x.m L)).m (notM x.m L)) else insE x (notM x.m L)

theorem insE_snoc {x y : Ent} (h : x.m < y.m) : ∀ M : List Ent, insE x (M ++ [y]) = insE x M ++ [y]
  | [] => by simp [insE, h]
  | z :: r => by
    by_cases h1 : x.m < z.m
    · simp [insE, h1]
    · simp [insE, h1, insE_snoc h r]
theorem insE_len (x : Ent) : ∀ M : List Ent, (insE x M).length = M.length + 1
  | [] => rfl
  | z :: r => by
    unfold insE
    split
    · simp
    · simp [insE_len x r]
theorem mem_insE {x y : Ent} : ∀ {M : List Ent}, y ∈ insE x M ↔ y = x ∨ y ∈ M
  | [] => by simp [insE]
  | z :: r => by
    unfold insE
    split
    · simp
    · simp only [List.mem_cons, mem_insE (M := r)]
      constructor
      · rintro (h | h | h)
        · exact .inr (.inl h)
        · exact .inl h
        · exact .inr (.inr h)
      · rintro (h | h | h)
        · exact .inr (.inl h)
        · exact .inl h
        · exact .inr (.inr h)
theorem notM_insE_self (x : Ent) : ∀ M : List Ent, notM x.m (insE x M) = notM x.m M
  | [] => by simp [insE, notM]
  | z :: r => by
    have ih := notM_insE_self x r
    unfold notM at ih ⊢
    unfold insE
    split
    · simp
    · simp only [List.filter_cons, ih]
theorem insE_head {x : Ent} {M : List Ent} (h : ∀ y ∈ M, x.m < y.m) : insE x M = x :: M := by
  cases M with
  | nil => rfl
  | cons z r => unfold insE; rw [if_pos (h z (by simp))]
theorem notM_insE {x : Ent} {k : Int} (hk : x.m ≠ k) : ∀ {M : List Ent}, sortedL M → notM k (insE x M) = insE x (notM k M)
  | [], _ => by simp [insE, notM, hk]
  | z :: r, h => by
    obtain ⟨h1, h2⟩ := List.pairwise_cons.1 h
    have ih := notM_insE hk h2
    by_cases hz : x.m < z.m
    · have e1 : insE x (z :: r) = x :: z :: r := by unfold insE; rw [if_pos hz]
      have e2 : insE x (notM k (z :: r)) = x :: notM k (z :: r) := insE_head (fun y hy => by
        have hy2 := (List.mem_filter.1 hy).1
        rcases List.mem_cons.1 hy2 with rfl | hy3
        · exact hz
        · have := h1 y hy3; omega)
      rw [e1, e2]
      simp [notM, hk]
    · have e1 : insE x (z :: r) = z :: insE x r := by rw [insE, if_neg hz]
      rw [e1]
      by_cases hzk : z.m = k
      · have e3 : notM k (z :: insE x r) = notM k (insE x r) := by simp [notM, hzk]
        have e4 : notM k (z :: r) = notM k r := by simp [notM, hzk]
        rw [e3, e4, ih]
      · have e3 : notM k (z :: insE x r) = z :: notM k (insE x r) := by simp [notM, hzk]
        have e4 : notM k (z :: r) = z :: notM k r := by simp [notM, hzk]
        rw [e3, e4, ih, insE, if_neg hz]
theorem insE_sorted {x : Ent} : ∀ {M : List Ent}, sortedL M → (∀ y ∈ M, y.m ≠ x.m) → sortedL (insE x M)
  | [], _, _ => by simp [insE, sortedL]
  | z :: r, h, hx => by
    obtain ⟨h1, h2⟩ := List.pairwise_cons.1 h
    unfold insE
    split
    · rename_i hz
      refine List.pairwise_cons.2 ⟨fun y hy => ?_, h⟩
      rcases List.mem_cons.1 hy with rfl | hy
      · exact hz
      · have := h1 y hy; omega
    · rename_i hz
      refine List.pairwise_cons.2 ⟨fun y hy => ?_, insE_sorted h2 (fun y hy => hx y (by simp [hy]))⟩
      rcases mem_insE.1 hy with rfl | hy
      · have := hx z (by simp); omega
      · exact h1 y hy
theorem notM_sub (k : Int) (L : List Ent) : (notM k L).Sublist L := List.filter_sublist
theorem notM_ne {k : Int} {L : List Ent} {y : Ent} (h : y ∈ notM k L) : y.m ≠ k := by
  have := (List.mem_filter.1 h).2
  simpa using this
theorem cut_at : ∀ {L : List Ent} {o : Nat}, sortedL L → o < L.length → L.take o ++ L.drop (o + 1) = notM (L.getD o default).m L
  | [], o, _, h => by simp at h
  | z :: r, 0, h, _ => by
    obtain ⟨h1, h2⟩ := List.pairwise_cons.1 h
    have h3 : notM z.m r = r := notM_all (fun y hy => by have := h1 y hy; omega)
    have h4 : notM z.m (z :: r) = notM z.m r := by simp [notM]
    show r = notM z.m (z :: r)
    rw [h4, h3]
  | z :: r, o + 1, h, hl => by
    obtain ⟨h1, h2⟩ := List.pairwise_cons.1 h
    have hl' : o < r.length := by simpa using hl
    have ih := cut_at h2 hl'
    have hm : r.getD o default ∈ r := by
      rw [List.getD_eq_getElem?_getD, List.getElem?_eq_getElem hl']
      exact List.getElem_mem _
    have hne : z.m ≠ (r.getD o default).m := by have := h1 _ hm; omega
    simp only [List.getD_cons_succ, List.take_succ_cons, List.drop_succ_cons, List.cons_append]
    rw [ih]
    simp only [notM, List.filter_cons]
    simp only [hne, ne_eq, not_false_eq_true, decide_true, if_true]
/-- what the specification does -/
theorem learned_short {L : List Ent} {x : Ent} (h : (insE x (notM x.m L)).length ≤ 8) : insE x (notM x.m L) = learnedL L x := by
  rw [insE_len] at h
  unfold learnedL
  rw [if_neg (by omega)]
theorem learned_long {L : List Ent} {x : Ent} {o : Nat} (hs : sortedL L) (hl : L.length ≤ 8) (h : ¬ (insE x (notM x.m L)).length ≤ 8) (ho : o < (insE x (notM x.m L)).length) (hb : bestO (notM x.m (insE x (notM x.m L))) = some ((insE x (notM x.m L)).getD o default)) :
    (insE x (notM x.m L)).take o ++ (insE x (notM x.m L)).drop (o + 1) = learnedL L x := by
  have hO := hs.sub (notM_sub x.m L)
  have hn : ∀ y ∈ notM x.m L, y.m ≠ x.m := fun y hy => notM_ne hy
  have e1 : notM x.m (insE x (notM x.m L)) = notM x.m L := by rw [notM_insE_self]; exact notM_all hn
  rw [e1] at hb
  have hlen := (notM_sub x.m L).length_le
  rw [insE_len] at h
  rw [cut_at (insE_sorted hO hn) ho]
  unfold learnedL
  rw [if_pos (by omega)]
  have hz := bestO_mem hb
  have e2 : oldE (notM x.m L) = (insE x (notM x.m L)).getD o default := by unfold oldE; rw [hb]; rfl
  rw [e2, notM_insE (fun e => hn _ hz e.symm) hO]
structure LearnR (n : Nat) (f : Nat → Ent) (x : Ent) (A : List Ent) (b : Bool) : Prop where
  good : tabOk n f → entOk x → A = learnedL (entsL n f) x ∧ b = true
  bad : ¬ (tabOk n f ∧ entOk x) → A = [] ∧ b = false
theorem learnR (n : Nat) (f : Nat → Ent) (x : Ent) : ∃ A b, LearnR n f x A b := by
  by_cases h : tabOk n f ∧ entOk x
  · exact ⟨_, _, fun _ _ => ⟨rfl, rfl⟩, fun h' => absurd h h'⟩
  · exact ⟨[], false, fun h1 h2 => absurd ⟨h1, h2⟩ h, fun _ => ⟨rfl, rfl⟩⟩
theorem learned_facts {n : Nat} {f : Nat → Ent} {x : Ent} (h : tabOk n f) (hx : entOk x) : sortedL (learnedL (entsL n f) x) ∧ (learnedL (entsL n f) x).length ≤ 8 ∧ ∀ y ∈ learnedL (entsL n f) x, entOk y := by
  have hs := entsL_sorted h.2
  have hO := hs.sub (notM_sub x.m (entsL n f))
  have hn : ∀ y ∈ notM x.m (entsL n f), y.m ≠ x.m := fun y hy => notM_ne hy
  have hlen := (notM_sub x.m (entsL n f)).length_le
  rw [entsL_len] at hlen
  have h8 := h.1
  unfold learnedL
  split
  · rename_i h9
    have hne : notM x.m (entsL n f) ≠ [] := by intro e; rw [e] at h9; simp at h9
    have hold := (oldE_mem hne).1
    have hlt : (notM (oldE (notM x.m (entsL n f))).m (notM x.m (entsL n f))).length < (notM x.m (entsL n f)).length := by
      unfold notM
      rw [List.length_filter_lt_length_iff_exists]
      exact ⟨_, hold, by simp [notM]⟩
    refine ⟨insE_sorted (hO.sub (notM_sub _ _)) (fun y hy => hn y ((notM_sub _ _).subset hy)), by rw [insE_len]; omega, fun y hy => ?_⟩
    rcases mem_insE.1 hy with rfl | hy
    · exact hx
    · exact entsL_ok h.2 ((notM_sub _ _).subset ((notM_sub _ _).subset hy))
  · refine ⟨insE_sorted hO hn, by rw [insE_len]; omega, fun y hy => ?_⟩
    rcases mem_insE.1 hy with rfl | hy
    · exact hx
    · exact entsL_ok h.2 ((notM_sub _ _).subset hy)
theorem LearnR.len {n : Nat} {f : Nat → Ent} {x : Ent} {A : List Ent} {b : Bool} (h : LearnR n f x A b) : A.length ≤ 1048576 := by
  by_cases hh : tabOk n f ∧ entOk x
  · rw [(h.good hh.1 hh.2).1]
    have := (learned_facts hh.1 hh.2).2.1
    omega
  · rw [(h.bad hh).1]; simp
end Go.Proofs.Ytfpomccgmligbaa
