/- What the law on learning draws. -/
import Derived.Test.YtfpomccgmligbaaAgeM
namespace Go.Proofs.Ytfpomccgmligbaa
open Go.RowKit
set_option linter.unusedVariables false
set_option linter.unusedSimpArgs false

set_option maxHeartbeats 4000000 in
theorem drawLearned_any (cv : Value) (len : Nat) (w : World) (h : Code w.heap.size cv len w) (hs : ∃ a n c, cv = .slice a n c) :
    Calls Try.prog 6 #[cv] w fun e w' => ∃ (a : Option Addr) (n cap : Nat) (f : Nat → Ent) (m p t : Int), e = .returned (.tuple #[.slice a n cap, .int .i64 m, .int .i64 p, .int .i64 t]) ∧ n ≤ 8 ∧ (-9223372036854775808 ≤ m ∧ m ≤ 9223372036854775807) ∧ RdEnt w' a n f ∧ Below w.heap.size w w' := by
  obtain ⟨a0, n0, c0, rfl⟩ := hs
  generalize hcv : Value.slice a0 n0 c0 = cv at *
  go_enter Try.func6, Try.ntmps6
  go_wp2_with fail
  refine (open_any cv len _ h ⟨a0, n0, c0, hcv.symm⟩).mono ?_
  rintro e w1 ⟨rfl, hR, hb⟩
  clear h
  go_wp2_with fail
  refine (table_any w.heap.size cv _ hR).mono ?_
  rintro e w2 ⟨a, n, cap, f, rfl, hn, hrd, hat, hR2, hK2⟩
  have hB := hb.trans (hK2.below hb.size (Nat.le_refl _))
  have HAt : Hid (∀ b, a = some b → w.heap.size < b.block) := hat
  have HN : Hid (n ≤ 8) := hn
  clear hR hb hK2 hat hn
  go_wp2_with fail
  refine (once_any w.heap.size cv 8 _ hR2 (by omega) (by omega)).mono ?_
  rintro e w3 ⟨x, rfl, hR, hK⟩
  replace hB := hB.trans (hK.below hB.size (Nat.le_refl _))
  replace hrd := hrd.kept hK HAt.out
  clear hR2 hK
  cases x
  · go_wp2_with fail
    refine (below_any w.heap.size cv 14 _ hR (by omega) (by omega)).mono ?_
    rintro e w4 ⟨x1, hx1, rfl, hR2, hK⟩
    replace hB := hB.trans (hK.below hB.size (Nat.le_refl _))
    replace hrd := hrd.kept hK HAt.out
    clear hR hK
    go_wp2_with fail
    refine (below_any w.heap.size cv 4 _ hR2 (by omega) (by omega)).mono ?_
    rintro e w5 ⟨x2, hx2, rfl, hR, hK⟩
    replace hB := hB.trans (hK.below hB.size (Nat.le_refl _))
    replace hrd := hrd.kept hK HAt.out
    clear hR2 hK
    go_wp2_with fail
    refine (below_any w.heap.size cv 50 _ hR (by omega) (by omega)).mono ?_
    rintro e w6 ⟨x3, hx3, rfl, hR2, hK⟩
    replace hB := hB.trans (hK.below hB.size (Nat.le_refl _))
    replace hrd := hrd.kept hK HAt.out
    clear hR hK hR2
    go_wp2_with fail
    exact bodyPost_ret (v := .tuple #[.slice a n cap, .int .i64 (1 + (x1 : Int)), .int .i64 x2, .int .i64 x3]) (by simp [results, Try.results6, go_sem]) rfl ⟨a, n, cap, f, _, _, _, rfl, HN.out, ⟨by omega, by omega⟩, hrd, hB⟩
  · go_wp2_with fail
    refine (off_any w.heap.size cv 1 20 _ hR (by omega) (by omega) (by omega)).mono ?_
    rintro e w4 ⟨x1, rfl, hR2, hK, z0, z1⟩
    have HX1 : Hid (-9223372036854775808 ≤ x1 ∧ x1 ≤ 9223372036854775807) := ⟨z0, z1⟩
    clear z0 z1
    replace hB := hB.trans (hK.below hB.size (Nat.le_refl _))
    replace hrd := hrd.kept hK HAt.out
    clear hR hK
    go_wp2_with fail
    refine (off_any w.heap.size cv 0 3 _ hR2 (by omega) (by omega) (by omega)).mono ?_
    rintro e w5 ⟨x2, rfl, hR, hK, _, _⟩
    replace hB := hB.trans (hK.below hB.size (Nat.le_refl _))
    replace hrd := hrd.kept hK HAt.out
    clear hR2 hK
    go_wp2_with fail
    refine (off_any w.heap.size cv 0 1000000000 _ hR (by omega) (by omega) (by omega)).mono ?_
    rintro e w6 ⟨x3, rfl, hR2, hK, _, _⟩
    replace hB := hB.trans (hK.below hB.size (Nat.le_refl _))
    replace hrd := hrd.kept hK HAt.out
    clear hR hK hR2
    go_wp2_with fail
    exact bodyPost_ret (v := .tuple #[.slice a n cap, .int .i64 x1, .int .i64 x2, .int .i64 x3]) (by simp [results, Try.results6, go_sem]) rfl ⟨a, n, cap, f, _, _, _, rfl, HN.out, HX1.out, hrd, hB⟩
open Classical in
/-- how many entries ahead of k are gone -/
noncomputable def gone (f : Nat → Ent) (mac : Int) (A : List Ent) : Nat → Nat
  | 0 => 0
  | k + 1 => gone f mac A k + if (f k).m = mac ∨ f k ∈ A then 0 else 1
theorem gone_le (f : Nat → Ent) (mac : Int) (A : List Ent) : ∀ k, gone f mac A k ≤ k
  | 0 => Nat.le_refl _
  | k + 1 => by
    have := gone_le f mac A k
    unfold gone
    split <;> omega
theorem gone_zero {f : Nat → Ent} {mac : Int} {A : List Ent} : ∀ {k : Nat}, (∀ i, i < k → (f i).m = mac ∨ f i ∈ A) → gone f mac A k = 0
  | 0, _ => rfl
  | k + 1, h => by
    unfold gone
    rw [gone_zero (fun i hi => h i (by omega)), if_pos (h k (by omega))]
theorem gone_one {f : Nat → Ent} {mac : Int} {A : List Ent} {o : Nat} : ∀ {k : Nat}, o < k → (∀ i, i < k → i ≠ o → (f i).m = mac ∨ f i ∈ A) → ¬ ((f o).m = mac ∨ f o ∈ A) → gone f mac A k = 1
  | 0, ho, _, _ => by omega
  | k + 1, ho, h, hn => by
    unfold gone
    by_cases e : o = k
    · subst e
      rw [gone_zero (fun i hi => h i (by omega) (by omega)), if_neg hn]
    · rw [gone_one (by omega) (fun i hi => h i (by omega)) hn, if_pos (h k (by omega) (by omega))]
theorem mem_entsL {n : Nat} {f : Nat → Ent} {y : Ent} : y ∈ entsL n f ↔ ∃ i, i < n ∧ f i = y := by
  simp [entsL]
theorem mem_notM {k : Int} {L : List Ent} {y : Ent} : y ∈ notM k L ↔ y ∈ L ∧ y.m ≠ k := by
  simp [notM]
theorem learned_gone {n : Nat} {f : Nat → Ent} {x : Ent} (h : tabOk n f) (hx : entOk x) : gone f x.m (learnedL (entsL n f) x) n = 0 ∨ gone f x.m (learnedL (entsL n f) x) n = 1 ∧ n = 8 := by
  by_cases h8 : (notM x.m (entsL n f)).length = 8
  · right
    have hsub := notM_sub x.m (entsL n f)
    have hlen := hsub.length_le
    rw [entsL_len] at hlen
    have hn8 : n = 8 := by have := h.1; omega
    have eN : notM x.m (entsL n f) = entsL n f := hsub.eq_of_length (by rw [entsL_len]; omega)
    have hne : notM x.m (entsL n f) ≠ [] := by intro e; rw [e] at h8; simp at h8
    have hold := (oldE_mem hne).1
    have eL : learnedL (entsL n f) x = insE x (notM (oldE (entsL n f)).m (entsL n f)) := by
      unfold learnedL
      rw [if_pos h8, eN]
    rw [eN] at hold
    obtain ⟨o, ho, hoe⟩ := mem_entsL.1 hold
    refine ⟨gone_one ho (fun i hi hne => .inr ?_) ?_, hn8⟩
    · rw [eL, mem_insE, mem_notM]
      refine .inr ⟨mem_entsL.2 ⟨i, hi, rfl⟩, ?_⟩
      rw [← hoe]
      intro e
      rcases Nat.lt_or_gt_of_ne hne with hlt | hlt
      · have := h.2.lt o i hlt ho
        omega
      · have := h.2.lt i o hlt hi
        omega
    · rintro (e | e)
      · have : f o ∈ notM x.m (entsL n f) := by rw [eN]; exact mem_entsL.2 ⟨o, ho, rfl⟩
        exact notM_ne this e
      · rw [eL, mem_insE, mem_notM] at e
        rcases e with e | ⟨_, e⟩
        · have : f o ∈ notM x.m (entsL n f) := by rw [eN]; exact mem_entsL.2 ⟨o, ho, rfl⟩
          exact notM_ne this (by rw [e])
        · exact e (by rw [hoe])
  · left
    refine gone_zero (fun i hi => ?_)
    by_cases e : (f i).m = x.m
    · exact .inl e
    · right
      unfold learnedL
      rw [if_neg h8, mem_insE, mem_notM]
      exact .inr ⟨mem_entsL.2 ⟨i, hi, rfl⟩, e⟩
theorem x_in_learned {L : List Ent} {x : Ent} : x ∈ learnedL L x := by
  unfold learnedL
  split <;> exact mem_insE.2 (.inl rfl)
theorem portS_here {x : Ent} : ∀ {L : List Ent}, sortedL L → x ∈ L → portS L x.m x.t = x.p
  | [], _, h => by simp at h
  | y :: r, hs, h => by
    have hr : sortedL r := (List.pairwise_cons.1 hs).2
    have hy : ∀ z ∈ r, y.m < z.m := (List.pairwise_cons.1 hs).1
    rw [portS_cons]
    rcases List.mem_cons.1 h with e | hm
    · subst e
      rw [if_pos rfl, if_pos (by omega)]
    · rw [if_neg (by have := hy x hm; omega)]
      exact portS_here hr hm
end Go.Proofs.Ytfpomccgmligbaa
