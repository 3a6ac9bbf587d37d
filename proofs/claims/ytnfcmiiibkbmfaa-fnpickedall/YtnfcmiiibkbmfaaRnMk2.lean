/- The specification's copy of a round: what its first statement has laid. -/
import Derived.Test.YtnfcmiiibkbmfaaRnPush
namespace Go.Proofs.Ytnfcmiiibkbmfaa
open Go.RowKit
set_option linter.unusedVariables false
set_option linter.unusedSimpArgs false

/-- two empty rows, the quanta, the deficits, the round's own place -/
structure Mk2 (R : Rnd) (w W : World) (E1 E2 : Option Nat) (Q D : Option (Option Addr)) (B : Option Nat) : Prop where
  below : Below w.heap.size w W
  e1 : ∀ g, E1 = some g → w.heap.size ≤ g ∧ W.heap[g]? = some (.cells #[] 2 (0, 0))
  e2 : ∀ g, E2 = some g → w.heap.size ≤ g ∧ W.heap[g]? = some (.cells #[] 2 (0, 0))
  ee : ∀ g g', E1 = some g → E2 = some g' → g ≠ g'
  q : ∀ a, Q = some a → VI W w.heap.size a R.nQ R.q
  d : ∀ a, D = some a → VI W w.heap.size a R.nD R.d
  qe : ∀ a g, Q = some a → E2 = some g → g ∉ blkI a R.nQ
  qd : ∀ a a', Q = some a → D = some a' → apartI a R.nQ a' R.nD
  b : ∀ g, B = some g → w.heap.size ≤ g ∧ W.heap[g]? = some (.cells zRound 27 (0, 0))
theorem Mk2.start {R : Rnd} {w W : World} (h : Below w.heap.size w W) : Mk2 R w W none none none none none :=
  ⟨h, fun _ e => by simp at e, fun _ e => by simp at e, fun _ _ e => by simp at e, fun _ e => by simp at e, fun _ e => by simp at e, fun _ _ e => by simp at e, fun _ _ e => by simp at e, fun _ e => by simp at e⟩
theorem Mk2.up {R : Rnd} {w W W' : World} {E1 E2 : Option Nat} {Q D : Option (Option Addr)} {B : Option Nat} (h : Mk2 R w W E1 E2 Q D B) (hb : Below W.heap.size W W') : Mk2 R w W' E1 E2 Q D B :=
  ⟨h.below.trans (hb.mono h.below.size), fun g e => ⟨(h.e1 g e).1, (hb.block _ (blk_lt (h.e1 g e).2)).trans (h.e1 g e).2⟩, fun g e => ⟨(h.e2 g e).1, (hb.block _ (blk_lt (h.e2 g e).2)).trans (h.e2 g e).2⟩, h.ee, fun a e => (h.q a e).up hb, fun a e => (h.d a e).up hb, h.qe, h.qd,
   fun g e => ⟨(h.b g e).1, (hb.block _ (blk_lt (h.b g e).2)).trans (h.b g e).2⟩⟩
theorem Mk2.runE1 {R : Rnd} {w W : World} {E2 : Option Nat} {Q D : Option (Option Addr)} {B : Option Nat} (h : Mk2 R w W none E2 Q D B) :
    ∃ g W', g = W.heap.size ∧ W' = W.alloc (.cells #[] 2) ∧ Mk2 R w W' (some g) E2 Q D B := by
  have h' := h.up (W' := W.alloc (.cells #[] 2)) ((Below.refl _ _).alloc (Nat.le_refl _) _)
  exact ⟨_, _, rfl, rfl, h'.below, fun g e => by cases e; exact ⟨h.below.size, blk_new _ _⟩, h'.e2, fun g g' e e' => by cases e; have := blk_lt (h.e2 g' e').2; omega, h'.q, h'.d, h'.qe, h'.qd, h'.b⟩
theorem Mk2.runE2 {R : Rnd} {w W : World} {E1 : Option Nat} {Q D : Option (Option Addr)} {B : Option Nat} (h : Mk2 R w W E1 none Q D B) :
    ∃ g W', g = W.heap.size ∧ W' = W.alloc (.cells #[] 2) ∧ Mk2 R w W' E1 (some g) Q D B := by
  have h' := h.up (W' := W.alloc (.cells #[] 2)) ((Below.refl _ _).alloc (Nat.le_refl _) _)
  exact ⟨_, _, rfl, rfl, h'.below, h'.e1, fun g e => by cases e; exact ⟨h.below.size, blk_new _ _⟩, fun g g' e e' => by cases e'; have := blk_lt (h.e1 g e).2; omega, h'.q, h'.d, fun a g e e' hx => by cases e'; have := ((h.q a e).blk _ hx).2; omega, h'.qd, h'.b⟩
theorem Mk2.runB {R : Rnd} {w W : World} {E1 E2 : Option Nat} {Q D : Option (Option Addr)} (h : Mk2 R w W E1 E2 Q D none) :
    ∃ g W', g = W.heap.size ∧ W' = W.alloc (.cells #[.slice none 0 0, .slice none 0 0, .int .i64 0, .bool false, .slice none 0 0] 27) ∧ Mk2 R w W' E1 E2 Q D (some g) := by
  have h' := h.up (W' := W.alloc (.cells zRound 27)) ((Below.refl _ _).alloc (Nat.le_refl _) _)
  exact ⟨_, _, rfl, rfl, h'.below, h'.e1, h'.e2, h'.ee, h'.q, h'.d, h'.qe, h'.qd, fun g e => by cases e; exact ⟨h.below.size, blk_new _ _⟩⟩
theorem box_ne {W : World} {g gE : Nat} {arr : Array Value} {t : TypeId} (ht : t ≠ 2) (h : W.heap[g]? = some (.cells arr t (0, 0))) (hE : W.heap[gE]? = some (.cells #[] 2 (0, 0))) : g ≠ gE := by
  rintro rfl
  rw [h] at hE
  simp at hE
  exact ht hE.2
theorem Mk2.runQ {R : Rnd} {w W : World} {E2 : Option Nat} {B : Option Nat} {g1 : Nat} {a : Option Addr} (c : Nat) (h : Mk2 R w W (some g1) E2 none none B) (hn : R.nQ ≤ 1048576) (hr : RdRow W a R.nQ fun i => .int .i64 (R.q i)) :
    ∃ aq cq W', (Builtin.append_ #[24, 24] 24 #[.slice (some ⟨g1, 0, none⟩) 0 0, .slice a R.nQ c]).run Try.prog W = .ok (.slice aq R.nQ cq) W' ∧ Mk2 R w W' none E2 (some aq) none B := by
  have hE := h.e1 g1 rfl
  obtain ⟨a', c', W', hrun, ho, hg, hp⟩ := appendA (c := c) (own_empty hE.1 hE.2) h.below.size hn hr
  have hk : ∀ k, k < W.heap.size → k ≠ g1 → W'.heap[k]? = W.heap[k]? := fun k hk hne => hg.block k hk (by simpa [Value.ownBlock] using hne)
  refine ⟨a', c', W', hrun, h.below.grown hg h.below.size (fun k e => by simp [Value.ownBlock] at e; rw [← e]; exact hE.1), fun _ e => by simp at e, fun g e => ⟨(h.e2 g e).1, (hk g (blk_lt (h.e2 g e).2) (h.ee g1 g rfl e).symm).trans (h.e2 g e).2⟩, fun _ _ e => by simp at e, fun a e => by cases e; exact ho.vi, fun _ e => by simp at e, fun a g e e' hx => ?_, fun _ _ _ e => by simp at e, fun g e => ⟨(h.b g e).1, (hk g (blk_lt (h.b g e).2) (box_ne (by decide) (h.b g e).2 hE.2)).trans (h.b g e).2⟩⟩
  cases e
  rcases hp g (blkI_sub hx) with h6 | h6
  · simp [Value.ownBlock] at h6
    exact h.ee g1 g rfl e' h6.symm
  · have := blk_lt (h.e2 g e').2
    omega
theorem Mk2.runD {R : Rnd} {w W : World} {B : Option Nat} {g2 : Nat} {a aq : Option Addr} (c : Nat) (h : Mk2 R w W none (some g2) (some aq) none B) (hn : R.nD ≤ 1048576) (hr : RdRow W a R.nD fun i => .int .i64 (R.d i)) :
    ∃ ad cd W', (Builtin.append_ #[24, 24] 24 #[.slice (some ⟨g2, 0, none⟩) 0 0, .slice a R.nD c]).run Try.prog W = .ok (.slice ad R.nD cd) W' ∧ Mk2 R w W' none none (some aq) (some ad) B := by
  have hE := h.e2 g2 rfl
  obtain ⟨a', c', W', hrun, ho, hg, hp⟩ := appendA (c := c) (own_empty hE.1 hE.2) h.below.size hn hr
  have hk : ∀ k, k < W.heap.size → k ≠ g2 → W'.heap[k]? = W.heap[k]? := fun k hk hne => hg.block k hk (by simpa [Value.ownBlock] using hne)
  refine ⟨a', c', W', hrun, h.below.grown hg h.below.size (fun k e => by simp [Value.ownBlock] at e; rw [← e]; exact hE.1), fun _ e => by simp at e, fun _ e => by simp at e, fun _ _ e => by simp at e, fun a e => by cases e; exact (h.q aq rfl).keepB (fun x hx hlt => hk x hlt (fun e => h.qe aq g2 rfl rfl (e ▸ hx))), fun a e => by cases e; exact ho.vi, fun _ _ _ e => by simp at e, fun a a2 e e' x hx hy => ?_, fun g e => ⟨(h.b g e).1, (hk g (blk_lt (h.b g e).2) (box_ne (by decide) (h.b g e).2 hE.2)).trans (h.b g e).2⟩⟩
  cases e
  cases e'
  rcases hp x (blkI_sub hy) with h6 | h6
  · simp [Value.ownBlock] at h6
    exact h.qe aq g2 rfl rfl (h6 ▸ hx)
  · have := ((h.q aq rfl).blk x hx).2
    omega
end Go.Proofs.Ytnfcmiiibkbmfaa
