/- The specification's copy of a round: what its first statement has laid. -/
import Derived.Test.YtnfcmiiibkbmfaaRnPush
namespace Go.Proofs.Ytnfcmiiibkbmfaa
open Go.RowKit
set_option linter.unusedVariables false
set_option linter.unusedSimpArgs false

/-- two empty rows, the quanta, the deficits, the round's own place -/
structure Mk2 (R : Rnd) (w W : World) (E1 E2 : Option Nat) (Q D : Option (Option Addr)) (B : Option Nat) : Prop where
  below : Below w.heap.size w W
  e1 : ∀ g, E1 = some g → w.heap.size ≤ g ∧ W.heap[g]? = some (.cells #[] 2 (0, 0))
  e2 : ∀ g, E2 = some g → w.heap.size ≤ g ∧ W.heap[g]? = some (.cells #[] 2 (0, 0))
  ee : ∀ g g', E1 = some g → E2 = some g' → g ≠ g'
  q : ∀ a, Q = some a → VI W w.heap.size a R.nQ R.q
  d : ∀ a, D = some a → VI W w.heap.size a R.nD R.d
  qe : ∀ a g, Q = some a → E2 = some g → g ∉ blkI a R.nQ
  qd : ∀ a a', Q = some a → D = some a' → apartI a R.nQ a' R.nD
  b : ∀ g, B = some g → w.heap.size ≤ g ∧ W.heap[g]? = some (.cells zRound 27 (0, 0))
theorem Mk2.start {R : Rnd} {w W : World} (h : Below w.heap.size w W) : Mk2 R w W none none none none none :=
  ⟨h, fun _ e => by simp at e, fun _ e => by simp at e, fun _ _ e => by simp at e, fun _ e => by simp at e, fun _ e => by simp at e, fun _ _ e => by simp at e, fun _ _ e => by simp at e, fun _ e => by simp at e⟩
theorem Mk2.up {R : Rnd} {w W W' : World} {E1 E2 : Option Nat} {Q D : Option (Option Addr)} {B : Option Nat} (h : Mk2 R w W E1 E2 Q D B) (hb : Below W.heap.size W W') : Mk2 R w W' E1 E2 Q D B :=
  ⟨h.below.trans (hb.mono h.below.size), fun g e => ⟨(h.e1 g e).1, (hb.block _ (blk_lt (h.e1 g e).2)).trans (h.e1 g e).2⟩, fun g e => ⟨(h.e2 g e).1, (hb.block _ (blk_lt (h.e2 g e).2)).trans (h.e2 g e).2⟩, h.ee, fun a e => (h.q a e).up hb, fun a e => (h.d a e).up hb, h.qe, h.qd,
   fun g e => ⟨(h.b g e).1, (hb.block _ (blk_lt (h.b g e).2)).trans (h.b g e).2⟩⟩
theorem Mk2.runE1 {R : Rnd} {w W : World} {E2 : Option Nat} {Q D : Option (Option Addr)} {B : Option Nat} (h : Mk2 R w W none E2 Q D B) :
    ∃ g W', g = W.heap.size ∧ W' = W.alloc (.cells #[] 2) ∧ Mk2 R w W' (some g) E2 Q D B := by
  have h' := h.up (W' := W.alloc (.cells #[] 2)) ((Below.refl _ _).alloc (Nat.le_refl _) _)
  exact ⟨_, _, rfl, rfl, h'.below, fun g e => by cases e; exact ⟨h.below.size, blk_new _ _⟩, h'.e2, fun g g' e e' => by cases e; have := blk_lt (h.e2 g' e').2; omega, h'.q, h'.d, h'.qe, h'.qd, h'.b⟩
theorem Mk2.runE2 {R : Rnd} {w W : World} {E1 : Option Nat} {Q D : Option (Option Addr)} {B : Option Nat} (h : Mk2 R w W E1 none Q D B) :
    ∃ g W', g = W.heap.size ∧ W' = W.alloc (.cells #[] 2) ∧ Mk2 R w W' E1 (some g) Q D B := by
  have h' := h.up (W' := W.alloc (.cells #[] 2)) ((Below.refl _ _).alloc (Nat.le_refl _) _)
  exact ⟨_, _, rfl, rfl, h'.below, h'.e1, fun g e => by cases e; exact ⟨h.below.size, blk_new _ _⟩, fun g g' e e' => by cases e'; have := blk_lt (h.e1 g e).2; omega, h'.q, h'.d, fun a g e e' hx => by cases e'; have := ((h.q a e).blk _ hx).2; omega, h'.qd, h'.b⟩
theorem Mk2.runB {R : Rnd} {w W : World} {E1 E2 : Option Nat} {Q D : Option (Option Addr)} (h : Mk2 R w W E1 E2 Q D none) :
    ∃ g W', g = W.heap.size ∧ W' = W.alloc (.cells #[.slice none 0 0, .slice none 0 0, .int .i64 0, .bool false, .slice none 0 0] 27) ∧ Mk2 R w W' E1 E2 Q D (some g) := by
  have h' := h.up (W' := W.alloc (.cells zRound 27)) ((Below.refl _ _).alloc (Nat.le_refl _) _)
  exact ⟨_, _, rfl, rfl, h'.below, h'.e1, h'.e2, h'.ee, h'.q, h'.d, h'.qe, h'.qd, fun g e => by cases e; exact ⟨h.below.size, blk_new _ _⟩⟩
theorem box_ne {W : World} {g gE : Nat} {arr : Array Value} {t : TypeId} (ht : t ≠ 2) (h : W.heap[g]? = some (.cells arr t (0, 0))) (hE : W.heap[gE]? = some (.cells #[] 2 (0, 0))) : g ≠ gE := by
  rintro rfl
  rw [h] at hE
  simp at hE
  exact ht hE.2
theorem Mk2.runQ {R : Rnd} {w W : World} {E2 : Option Nat} {B : Option Nat} {g1 : Nat} {a : Option Addr} (c : Nat) (h : Mk2 R w W (some g1) E2 none none B) (hn : R.nQ ≤ 1048576) (hr : RdRow W a R.nQ fun i => .int .i64 (R.q i)) :
    ∃ aq cq W', (Builtin.append_ #[24, 24] 24 #[.slice (some ⟨g1, 0, none⟩) 0 0, .slice a R.nQ c]).run Try.prog W = .ok (.slice aq R.nQ cq) W' ∧ Mk2 R w W' none E2 (some aq) none B := by
  have hE := h.e1 g1 rfl
  obtain ⟨a', c', W', hrun, ho, hg, hp⟩ := appendA (c := c) (own_empty hE.1 hE.2) h.below.size hn hr
  have hk : ∀ k, k < W.heap.size → k ≠ g1 → W'.heap[k]? = W.heap[k]? := fun k hk hne => hg.block k hk (by simpa [Value.ownBlock] using hne)
  refine ⟨a', c', W', hrun, h.below.grown hg h.below.size (fun k e => by simp [Value.ownBlock] at e; rw [← e]; exact hE.1), fun _ e => by simp at e, fun g e => ⟨(h.e2 g e).1, (hk g (blk_lt (h.e2 g e).2) (h.ee g1 g rfl e).symm).trans (h.e2 g e).2⟩, fun _ _ e => by simp at e, fun a e => by cases e; exact ho.vi, fun _ e => by simp at e, fun a g e e' hx => ?_, fun _ _ _ e => by simp at e, fun g e => ⟨(h.b g e).1, (hk g (blk_lt (h.b g e).2) (box_ne (by decide) (h.b g e).2 hE.2)).trans (h.b g e).2⟩⟩
  cases e
  rcases hp g (blkI_sub hx) with h6 | h6
  · simp [Value.ownBlock] at h6
    exact h.ee g1 g rfl e' h6.symm
  · have := blk_lt (h.e2 g e').2
    omega
theorem Mk2.runD {R : Rnd} {w W : World} {B : Option Nat} {g2 : Nat} {a aq : Option Addr} (c : Nat) (h : Mk2 R w W none (some g2) (some aq) none B) (hn : R.nD ≤ 1048576) (hr : RdRow W a R.nD fun i => .int .i64 (R.d i)) :
    ∃ ad cd W', (Builtin.append_ #[24, 24] 24 #[.slice (some ⟨g2, 0, none⟩) 0 0, .slice a R.nD c]).run Try.prog W = .ok (.slice ad R.nD cd) W' ∧ Mk2 R w W' none none (some aq) (some ad) B := by
  have hE := h.e2 g2 rfl
  obtain ⟨a', c', W', hrun, ho, hg, hp⟩ := appendA (c := c) (own_empty hE.1 hE.2) h.below.size hn hr
  have hk : ∀ k, k < W.heap.size → k ≠ g2 → W'.heap[k]? = W.heap[k]? := fun k hk hne => hg.block k hk (by simpa [Value.ownBlock] using hne)
  refine ⟨a', c', W', hrun, h.below.grown hg h.below.size (fun k e => by simp [Value.ownBlock] at e; rw [← e]; exact hE.1), fun _ e => by simp at e, fun _ e => by simp at e, fun _ _ e => by simp at e, fun a e => by cases e; exact (h.q aq rfl).keepB (fun x hx hlt => hk x hlt (fun e => h.qe aq g2 rfl rfl (e ▸ hx))), fun a e => by cases e; exact ho.vi, fun _ _ _ e => by simp at e, fun a a2 e e' x hx hy => ?_, fun g e => ⟨(h.b g e).1, (hk g (blk_lt (h.b g e).2) (box_ne (by decide) (h.b g e).2 hE.2)).trans (h.b g e).2⟩⟩
  cases e
  cases e'
  rcases hp x (blkI_sub hy) with h6 | h6
  · simp [Value.ownBlock] at h6
    exact h.qe aq g2 rfl rfl (h6 ▸ hx)
  · have := ((h.q aq rfl).blk x hx).2
    omega
end Go.Proofs.Ytnfcmiiibkbmfaa

/- The specification's copy of a round: the sizes, appended one by one. -/
namespace Go.Proofs.Ytnfcmiiibkbmfaa
open Go.RowKit
set_option linter.unusedVariables false
set_option linter.unusedSimpArgs false

def slV (k : Nat) (A : Nat → Option Addr) (L C : Nat → Nat) : List Value := (List.range k).map fun i => .slice (A i) (L i) (C i)
theorem slV_push (k : Nat) (A : Nat → Option Addr) (L C : Nat → Nat) (a : Option Addr) (c : Nat) : slV k A L C ++ [.slice a (L k) c] = slV (k + 1) (fun i => if i = k then a else A i) L (fun i => if i = k then c else C i) := by
  unfold slV
  rw [List.range_succ, List.map_append]
  congr 1
  · refine List.map_congr_left fun j hj => ?_
    have : j < k := List.mem_range.1 hj
    dsimp only
    rw [if_neg (show ¬ j = k by omega), if_neg (show ¬ j = k by omega)]
  · simp
theorem VI.keepT {W W' : World} {base : Nat} {a : Option Addr} {n : Nat} {f : Nat → Int} (h : VI W base a n f) (hk : ∀ (g : Nat) (arr : Array Value), W.heap[g]? = some (.cells arr 2 (0, 0)) → W'.heap[g]? = some (.cells arr 2 (0, 0))) : VI W' base a n f :=
  h.imp id (by
    rintro ⟨g, ha, hg, arr, hb, hr⟩
    exact ⟨g, ha, hg, arr, hk g arr hb, hr⟩)
theorem OI.keepT {W W' : World} {base : Nat} {a : Option Addr} {n c : Nat} {f : Nat → Int} (h : OI W base a n c f) (hk : ∀ (g : Nat) (arr : Array Value), W.heap[g]? = some (.cells arr 2 (0, 0)) → W'.heap[g]? = some (.cells arr 2 (0, 0))) : OI W' base a n c f := by
  refine ⟨h.1, h.2.imp id ?_⟩
  rintro ⟨g, cap, cur, e, hg, hbk, hr⟩
  exact ⟨g, cap, cur, e, hg, hk g cur hbk, hr⟩
/-- sizes copied up to k, in a row that grows -/
structure Cp2 (R : Rnd) (base : Nat) (W : World) (aQ aD av : Option Addr) (cv : Nat) (A : Nat → Option Addr) (C : Nat → Nat) (k : Nat) : Prop where
  q : VI W base aQ R.nQ R.q
  d : VI W base aD R.nD R.d
  s : W.ownsRow base 24 1 (.slice av k cv) k (slV k A R.L C)
  z : ∀ i, i < k → OI W base (A i) (R.L i) (C i) (R.z i)
  qd : apartI aQ R.nQ aD R.nD
  qz : ∀ i, i < k → ∀ x ∈ blkI aQ R.nQ, x ∉ blkO (A i)
  dz : ∀ i, i < k → ∀ x ∈ blkI aD R.nD, x ∉ blkO (A i)
  zz : ∀ i j, i < k → j < k → i ≠ j → ∀ x ∈ blkO (A i), x ∉ blkO (A j)
theorem own_form {w : World} {base n : Nat} {e : TypeId} {sz : Nat} {v : Value} {xs : List Value} (h : w.ownsRow base e sz v n xs) : ∃ a c, v = .slice a n c := by
  rcases h.2 with ⟨e, h0⟩ | ⟨g, cap, cur, e, _⟩
  · subst h0
    exact ⟨_, _, e⟩
  · exact ⟨_, _, e⟩
theorem Cp2.step {R : Rnd} {base : Nat} {W : World} {aQ aD av : Option Addr} {cv : Nat} {A : Nat → Option Addr} {C : Nat → Nat} {k : Nat} (h : Cp2 R base W aQ aD av cv A C k) (hk : k < 1048576) (hl : R.L k ≤ 1048576) (hb : base ≤ W.heap.size) (hr : RdRow (W.alloc (.cells #[] 2)) (R.A k) (R.L k) fun j => .int .i64 (R.z k j)) (cc : Nat) :
    ∃ a' c' W2 av' cv' W4, (Builtin.append_ #[24, 24] 24 #[.slice (some ⟨W.heap.size, 0, none⟩) 0 0, .slice (R.A k) (R.L k) cc]).run Try.prog (W.alloc (.cells #[] 2)) = .ok (.slice a' (R.L k) c') W2 ∧
      (Builtin.append_ #[25, 25] 25 #[.slice av k cv, .slice (some ⟨W2.heap.size, 0, none⟩) 1 1]).run Try.prog (W2.alloc (.cells #[.slice a' (R.L k) c'] 24)) = .ok (.slice av' (k + 1) cv') W4 ∧
      Cp2 R base W4 aQ aD av' cv' (fun i => if i = k then a' else A i) (fun i => if i = k then c' else C i) (k + 1) ∧ Below base W W4 ∧ Below W.heap.size W W2 ∧
      (∀ (g : Nat) (arr : Array Value) (t : TypeId), t ≠ 24 → W.heap[g]? = some (.cells arr t (0, 0)) → W4.heap[g]? = some (.cells arr t (0, 0))) := by
  have hA : Below W.heap.size W (W.alloc (.cells #[] 2)) := (Below.refl _ _).alloc (Nat.le_refl _) _
  have e1 : (W.alloc (.cells #[] 2)).heap.size = W.heap.size + 1 := by simp
  obtain ⟨a', c', W2, r1, ho, hg, hp⟩ := appendA (W := W.alloc (.cells #[] 2)) (base := W.heap.size) (c := cc) (own_empty (Nat.le_refl _) (blk_new W _)) (by omega) hl hr
  have B2 : Below W.heap.size W W2 := hA.grown hg (by omega) (fun x e => by simp [Value.ownBlock] at e; omega)
  have hA3 : Below W2.heap.size W2 (W2.alloc (.cells #[.slice a' (R.L k) c'] 24)) := (Below.refl _ _).alloc (Nat.le_refl _) _
  have e3 : (W2.alloc (.cells #[.slice a' (R.L k) c'] 24)).heap.size = W2.heap.size + 1 := by simp
  have B3 : Below W.heap.size W (W2.alloc (.cells #[.slice a' (R.L k) c'] 24)) := B2.trans (hA3.mono B2.size)
  obtain ⟨i0, hi, hz0, hz1, hz2⟩ := info_parts info22
  have hnew := blk_cell (blk_new W2 (.cells #[.slice a' (R.L k) c'] 24))
  obtain ⟨v', W4, r2, h2, h3, h4, h5⟩ := run_append_own_at (P := Try.prog) (W2.alloc (.cells #[.slice a' (R.L k) c'] 24)) base 25 25 24 i0 (.slice none 0 0) 1 24 Try.underlying25 hi hz0 hz1 hz2 rfl (by decide) (.slice av k cv) k (slV k A R.L C) (own_below h.s B3 (Nat.le_refl _)) ⟨W2.heap.size, 0, none⟩ 1 1 [.slice a' (R.L k) c'] rfl (fun j u hj => by
    have hj0 : j = 0 := by
      have := (List.getElem?_eq_some_iff.1 hj).1
      simp at this
      exact this
    subst hj0
    have e : (⟨W2.heap.size, 0, none⟩ : Addr).add 0 = ⟨W2.heap.size, 0, none⟩ := by unfold Addr.add; split <;> simp_all
    rw [e, hnew 0]
    simpa using hj) (fun u hu => by
    simp at hu
    subst hu
    rfl) (by unfold maxLen; omega) (by omega) (by have := B2.size; omega)
  rw [slV_push] at h2
  obtain ⟨av', cv', rfl⟩ := own_form h2
  have hty : ∀ x, (Value.slice av k cv).ownBlock = some x → base ≤ x ∧ ∃ arr, W.heap[x]? = some (.cells arr 24 (0, 0)) := fun x hx => by
    rcases h.s.2 with ⟨e, _⟩ | ⟨g, cap, cur, e, hg, hbk, _⟩
    · rw [e] at hx
      simp [Value.ownBlock] at hx
    · rw [e] at hx
      simp [Value.ownBlock] at hx
      subst hx
      exact ⟨hg, cur, hbk⟩
  have hkeep : ∀ (g : Nat) (arr : Array Value) (t : TypeId), t ≠ 24 → (W2.alloc (.cells #[.slice a' (R.L k) c'] 24)).heap[g]? = some (.cells arr t (0, 0)) → W4.heap[g]? = some (.cells arr t (0, 0)) := fun g arr t ht hgg => by
    refine (h3.block g (blk_lt hgg) (fun e => ?_)).trans hgg
    obtain ⟨_, arr', h'⟩ := hty g e.symm
    have h6 := (B3.block g (blk_lt h')).trans h'
    rw [hgg] at h6
    simp at h6
    exact ht h6.2
  have k2 : ∀ (g : Nat) (arr : Array Value), W.heap[g]? = some (.cells arr 2 (0, 0)) → W4.heap[g]? = some (.cells arr 2 (0, 0)) := fun g arr hgg => hkeep g arr 2 (by decide) ((B3.block g (blk_lt hgg)).trans hgg)
  have hoW : OI W4 W.heap.size a' (R.L k) c' (R.z k) := (ho.up hA3).keepT (fun g arr hgg => hkeep g arr 2 (by decide) hgg)
  refine ⟨a', c', W2, av', cv', W4, r1, r2, ⟨h.q.keepT k2, h.d.keepT k2, h2, fun i hi => ?_, h.qd, fun i hi => ?_, fun i hi => ?_, fun i j hi hj hne => ?_⟩, ?_, B2, fun g arr t ht hgg => hkeep g arr t ht ((B3.block g (blk_lt hgg)).trans hgg)⟩
  · by_cases e : i = k
    · subst e
      simp only [if_true]
      exact hoW.mono hb
    · simp only [if_neg e]
      exact (h.z i (by omega)).keepT k2
  · by_cases e : i = k
    · subst e
      simp only [if_true]
      exact apart_oldO h.q hoW (Nat.le_refl _)
    · simp only [if_neg e]
      exact h.qz i (by omega)
  · by_cases e : i = k
    · subst e
      simp only [if_true]
      exact apart_oldO h.d hoW (Nat.le_refl _)
    · simp only [if_neg e]
      exact h.dz i (by omega)
  · by_cases e : i = k
    · subst e
      simp only [if_true, if_neg (Ne.symm hne)]
      exact fun x hx hy => apart_oldOO (h.z j (by omega)) hoW (Nat.le_refl _) x hy hx
    · by_cases e2 : j = k
      · subst e2
        simp only [if_true, if_neg e]
        exact apart_oldOO (h.z i (by omega)) hoW (Nat.le_refl _)
      · simp only [if_neg e, if_neg e2]
        exact h.zz i j (by omega) (by omega) hne
  · exact (B3.mono hb).grown h3 (by have := B2.size; omega) (fun x e => (hty x e).1)
theorem Cp2.up {R : Rnd} {base : Nat} {W W' : World} {aQ aD av : Option Addr} {cv : Nat} {A : Nat → Option Addr} {C : Nat → Nat} {k : Nat} (h : Cp2 R base W aQ aD av cv A C k) (hb : Below W.heap.size W W') : Cp2 R base W' aQ aD av cv A C k :=
  ⟨h.q.up hb, h.d.up hb, own_below h.s hb (Nat.le_refl _), fun i hi => (h.z i hi).up hb, h.qd, h.qz, h.dz, h.zz⟩
theorem Cp2.keepT {R : Rnd} {base : Nat} {W W' : World} {aQ aD av : Option Addr} {cv : Nat} {A : Nat → Option Addr} {C : Nat → Nat} {k : Nat} (h : Cp2 R base W aQ aD av cv A C k) (h2 : ∀ (g : Nat) (arr : Array Value), W.heap[g]? = some (.cells arr 2 (0, 0)) → W'.heap[g]? = some (.cells arr 2 (0, 0))) (h3 : ∀ (g : Nat) (arr : Array Value), W.heap[g]? = some (.cells arr 24 (0, 0)) → W'.heap[g]? = some (.cells arr 24 (0, 0))) : Cp2 R base W' aQ aD av cv A C k := by
  refine ⟨h.q.keepT h2, h.d.keepT h2, ⟨h.s.1, h.s.2.imp id ?_⟩, fun i hi => (h.z i hi).keepT h2, h.qd, h.qz, h.dz, h.zz⟩
  rintro ⟨g, cap, cur, e, hg, hbk, hr⟩
  exact ⟨g, cap, cur, e, hg, h3 g cur hbk, hr⟩
/-- the specification's copy -/
def Rnd.cp2 (R : Rnd) (aQ : Option Addr) (cQ : Nat) (aD : Option Addr) (cD : Nat) (av : Option Addr) (cv : Nat) (A : Nat → Option Addr) (C : Nat → Nat) : Rnd :=
  ⟨aQ, R.nQ, cQ, R.q, aD, R.nD, cD, R.d, R.turn, R.fresh, av, R.nS, cv, A, R.L, C, R.z⟩
theorem Cp2.own {R : Rnd} {base : Nat} {W : World} {aQ aD av : Option Addr} {cv : Nat} {A : Nat → Option Addr} {C : Nat → Nat} (h : Cp2 R base W aQ aD av cv A C R.nS) (cQ cD : Nat) : OwnRz W base (R.cp2 aQ cQ aD cD av cv A C) := by
  refine ⟨⟨h.q, h.d, ?_, fun i hi => (h.z i hi).vi, h.qd, fun i hi x hx hy => h.qz i hi x hx (blkI_sub hy), fun i hi x hx hy => h.dz i hi x hx (blkI_sub hy), fun i j hi hj hne x hx hy => h.zz i j hi hj hne x (blkI_sub hx) (blkI_sub hy)⟩, h.z, h.qz, h.dz, h.zz⟩
  rcases h.s.2 with ⟨_, h0⟩ | ⟨g, cap, cur, e, hg, hbk, hnc, hcm, hcs, htake⟩
  · exact .inl h0
  · injection e with e2
    refine .inr ⟨g, e2, hg, cur, hbk, by show R.nS ≤ _; omega, fun i hi => ?_⟩
    have hi' : i < R.nS := hi
    have e3 : (cur.toList.take (R.nS * 1))[i]? = some (.slice (A i) (R.L i) (C i)) := by rw [htake]; simp [slV, hi']
    rw [List.getElem?_take_of_lt (by omega)] at e3
    have e4 : cur[i]? = some (Value.slice (A i) (R.L i) (C i)) := by simpa using e3
    exact e4
end Go.Proofs.Ytnfcmiiibkbmfaa
