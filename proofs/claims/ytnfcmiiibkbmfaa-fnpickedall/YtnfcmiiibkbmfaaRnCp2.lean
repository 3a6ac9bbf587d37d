/- The specification's copy of a round: the sizes, appended one by one. -/
import Derived.Test.YtnfcmiiibkbmfaaRnMk2
namespace Go.Proofs.Ytnfcmiiibkbmfaa
open Go.RowKit
set_option linter.unusedVariables false
set_option linter.unusedSimpArgs false

def slV (k : Nat) (A : Nat → Option Addr) (L C : Nat → Nat) : List Value := (List.range k).map fun i => .slice (A i) (L i) (C i)
theorem slV_push (k : Nat) (A : Nat → Option Addr) (L C : Nat → Nat) (a : Option Addr) (c : Nat) : slV k A L C ++ [.slice a (L k) c] = slV (k + 1) (fun i => if i = k then a else A i) L (fun i => if i = k then c else C i) := by
  unfold slV
  rw [List.range_succ, List.map_append]
  congr 1
  · refine List.map_congr_left fun j hj => ?_
    have : j < k := List.mem_range.1 hj
    dsimp only
    rw [if_neg (show ¬ j = k by omega), if_neg (show ¬ j = k by omega)]
  · simp
theorem VI.keepT {W W' : World} {base : Nat} {a : Option Addr} {n : Nat} {f : Nat → Int} (h : VI W base a n f) (hk : ∀ (g : Nat) (arr : Array Value), W.heap[g]? = some (.cells arr 2 (0, 0)) → W'.heap[g]? = some (.cells arr 2 (0, 0))) : VI W' base a n f :=
  h.imp id (by
    rintro ⟨g, ha, hg, arr, hb, hr⟩
    exact ⟨g, ha, hg, arr, hk g arr hb, hr⟩)
theorem OI.keepT {W W' : World} {base : Nat} {a : Option Addr} {n c : Nat} {f : Nat → Int} (h : OI W base a n c f) (hk : ∀ (g : Nat) (arr : Array Value), W.heap[g]? = some (.cells arr 2 (0, 0)) → W'.heap[g]? = some (.cells arr 2 (0, 0))) : OI W' base a n c f := by
  refine ⟨h.1, h.2.imp id ?_⟩
  rintro ⟨g, cap, cur, e, hg, hbk, hr⟩
  exact ⟨g, cap, cur, e, hg, hk g cur hbk, hr⟩
/-- sizes copied up to k, in a row that grows -/
structure Cp2 (R : Rnd) (base : Nat) (W : World) (aQ aD av : Option Addr) (cv : Nat) (A : Nat → Option Addr) (C : Nat → Nat) (k : Nat) : Prop where
  q : VI W base aQ R.nQ R.q
  d : VI W base aD R.nD R.d
  s : W.ownsRow base 24 1 (.slice av k cv) k (slV k A R.L C)
  z : ∀ i, i < k → OI W base (A i) (R.L i) (C i) (R.z i)
  qd : apartI aQ R.nQ aD R.nD
  qz : ∀ i, i < k → ∀ x ∈ blkI aQ R.nQ, x ∉ blkO (A i)
  dz : ∀ i, i < k → ∀ x ∈ blkI aD R.nD, x ∉ blkO (A i)
  zz : ∀ i j, i < k → j < k → i ≠ j → ∀ x ∈ blkO (A i), x ∉ blkO (A j)
theorem own_form {w : World} {base n : Nat} {e : TypeId} {sz : Nat} {v : Value} {xs : List Value} (h : w.ownsRow base e sz v n xs) : ∃ a c, v = .slice a n c := by
  rcases h.2 with ⟨e, h0⟩ | ⟨g, cap, cur, e, _⟩
  · subst h0
    exact ⟨_, _, e⟩
  · exact ⟨_, _, e⟩
theorem Cp2.step {R : Rnd} {base : Nat} {W : World} {aQ aD av : Option Addr} {cv : Nat} {A : Nat → Option Addr} {C : Nat → Nat} {k : Nat} (h : Cp2 R base W aQ aD av cv A C k) (hk : k < 1048576) (hl : R.L k ≤ 1048576) (hb : base ≤ W.heap.size) (hr : RdRow (W.alloc (.cells #[] 2)) (R.A k) (R.L k) fun j => .int .i64 (R.z k j)) (cc : Nat) :
    ∃ a' c' W2 av' cv' W4, (Builtin.append_ #[24, 24] 24 #[.slice (some ⟨W.heap.size, 0, none⟩) 0 0, .slice (R.A k) (R.L k) cc]).run Try.prog (W.alloc (.cells #[] 2)) = .ok (.slice a' (R.L k) c') W2 ∧
      (Builtin.append_ #[25, 25] 25 #[.slice av k cv, .slice (some ⟨W2.heap.size, 0, none⟩) 1 1]).run Try.prog (W2.alloc (.cells #[.slice a' (R.L k) c'] 24)) = .ok (.slice av' (k + 1) cv') W4 ∧
      Cp2 R base W4 aQ aD av' cv' (fun i => if i = k then a' else A i) (fun i => if i = k then c' else C i) (k + 1) ∧ Below base W W4 ∧ Below W.heap.size W W2 ∧
      (∀ (g : Nat) (arr : Array Value) (t : TypeId), t ≠ 24 → W.heap[g]? = some (.cells arr t (0, 0)) → W4.heap[g]? = some (.cells arr t (0, 0))) := by
  have hA : Below W.heap.size W (W.alloc (.cells #[] 2)) := (Below.refl _ _).alloc (Nat.le_refl _) _
  have e1 : (W.alloc (.cells #[] 2)).heap.size = W.heap.size + 1 := by simp
  obtain ⟨a', c', W2, r1, ho, hg, hp⟩ := appendA (W := W.alloc (.cells #[] 2)) (base := W.heap.size) (c := cc) (own_empty (Nat.le_refl _) (blk_new W _)) (by omega) hl hr
  have B2 : Below W.heap.size W W2 := hA.grown hg (by omega) (fun x e => by simp [Value.ownBlock] at e; omega)
  have hA3 : Below W2.heap.size W2 (W2.alloc (.cells #[.slice a' (R.L k) c'] 24)) := (Below.refl _ _).alloc (Nat.le_refl _) _
  have e3 : (W2.alloc (.cells #[.slice a' (R.L k) c'] 24)).heap.size = W2.heap.size + 1 := by simp
  have B3 : Below W.heap.size W (W2.alloc (.cells #[.slice a' (R.L k) c'] 24)) := B2.trans (hA3.mono B2.size)
  obtain ⟨i0, hi, hz0, hz1, hz2⟩ := info_parts info22
  have hnew := blk_cell (blk_new W2 (.cells #[.slice a' (R.L k) c'] 24))
  obtain ⟨v', W4, r2, h2, h3, h4, h5⟩ := run_append_own_at (P := Try.prog) (W2.alloc (.cells #[.slice a' (R.L k) c'] 24)) base 25 25 24 i0 (.slice none 0 0) 1 24 Try.underlying25 hi hz0 hz1 hz2 rfl (by decide) (.slice av k cv) k (slV k A R.L C) (own_below h.s B3 (Nat.le_refl _)) ⟨W2.heap.size, 0, none⟩ 1 1 [.slice a' (R.L k) c'] rfl (fun j u hj => by
    have hj0 : j = 0 := by
      have := (List.getElem?_eq_some_iff.1 hj).1
      simp at this
      exact this
    subst hj0
    have e : (⟨W2.heap.size, 0, none⟩ : Addr).add 0 = ⟨W2.heap.size, 0, none⟩ := by unfold Addr.add; split <;> simp_all
    rw [e, hnew 0]
    simpa using hj) (fun u hu => by
    simp at hu
    subst hu
    rfl) (by unfold maxLen; omega) (by omega) (by have := B2.size; omega)
  rw [slV_push] at h2
  obtain ⟨av', cv', rfl⟩ := own_form h2
  have hty : ∀ x, (Value.slice av k cv).ownBlock = some x → base ≤ x ∧ ∃ arr, W.heap[x]? = some (.cells arr 24 (0, 0)) := fun x hx => by
    rcases h.s.2 with ⟨e, _⟩ | ⟨g, cap, cur, e, hg, hbk, _⟩
    · rw [e] at hx
      simp [Value.ownBlock] at hx
    · rw [e] at hx
      simp [Value.ownBlock] at hx
      subst hx
      exact ⟨hg, cur, hbk⟩
  have hkeep : ∀ (g : Nat) (arr : Array Value) (t : TypeId), t ≠ 24 → (W2.alloc (.cells #[.slice a' (R.L k) c'] 24)).heap[g]? = some (.cells arr t (0, 0)) → W4.heap[g]? = some (.cells arr t (0, 0)) := fun g arr t ht hgg => by
    refine (h3.block g (blk_lt hgg) (fun e => ?_)).trans hgg
    obtain ⟨_, arr', h'⟩ := hty g e.symm
    have h6 := (B3.block g (blk_lt h')).trans h'
    rw [hgg] at h6
    simp at h6
    exact ht h6.2
  have k2 : ∀ (g : Nat) (arr : Array Value), W.heap[g]? = some (.cells arr 2 (0, 0)) → W4.heap[g]? = some (.cells arr 2 (0, 0)) := fun g arr hgg => hkeep g arr 2 (by decide) ((B3.block g (blk_lt hgg)).trans hgg)
  have hoW : OI W4 W.heap.size a' (R.L k) c' (R.z k) := (ho.up hA3).keepT (fun g arr hgg => hkeep g arr 2 (by decide) hgg)
  refine ⟨a', c', W2, av', cv', W4, r1, r2, ⟨h.q.keepT k2, h.d.keepT k2, h2, fun i hi => ?_, h.qd, fun i hi => ?_, fun i hi => ?_, fun i j hi hj hne => ?_⟩, ?_, B2, fun g arr t ht hgg => hkeep g arr t ht ((B3.block g (blk_lt hgg)).trans hgg)⟩
  · by_cases e : i = k
    · subst e
      simp only [if_true]
      exact hoW.mono hb
    · simp only [if_neg e]
      exact (h.z i (by omega)).keepT k2
  · by_cases e : i = k
    · subst e
      simp only [if_true]
      exact apart_oldO h.q hoW (Nat.le_refl _)
    · simp only [if_neg e]
      exact h.qz i (by omega)
  · by_cases e : i = k
    · subst e
      simp only [if_true]
      exact apart_oldO h.d hoW (Nat.le_refl _)
    · simp only [if_neg e]
      exact h.dz i (by omega)
  · by_cases e : i = k
    · subst e
      simp only [if_true, if_neg (Ne.symm hne)]
      exact fun x hx hy => apart_oldOO (h.z j (by omega)) hoW (Nat.le_refl _) x hy hx
    · by_cases e2 : j = k
      · subst e2
        simp only [if_true, if_neg e]
        exact apart_oldOO (h.z i (by omega)) hoW (Nat.le_refl _)
      · simp only [if_neg e, if_neg e2]
        exact h.zz i j (by omega) (by omega) hne
  · exact (B3.mono hb).grown h3 (by have := B2.size; omega) (fun x e => (hty x e).1)
theorem Cp2.up {R : Rnd} {base : Nat} {W W' : World} {aQ aD av : Option Addr} {cv : Nat} {A : Nat → Option Addr} {C : Nat → Nat} {k : Nat} (h : Cp2 R base W aQ aD av cv A C k) (hb : Below W.heap.size W W') : Cp2 R base W' aQ aD av cv A C k :=
  ⟨h.q.up hb, h.d.up hb, own_below h.s hb (Nat.le_refl _), fun i hi => (h.z i hi).up hb, h.qd, h.qz, h.dz, h.zz⟩
theorem Cp2.keepT {R : Rnd} {base : Nat} {W W' : World} {aQ aD av : Option Addr} {cv : Nat} {A : Nat → Option Addr} {C : Nat → Nat} {k : Nat} (h : Cp2 R base W aQ aD av cv A C k) (h2 : ∀ (g : Nat) (arr : Array Value), W.heap[g]? = some (.cells arr 2 (0, 0)) → W'.heap[g]? = some (.cells arr 2 (0, 0))) (h3 : ∀ (g : Nat) (arr : Array Value), W.heap[g]? = some (.cells arr 24 (0, 0)) → W'.heap[g]? = some (.cells arr 24 (0, 0))) : Cp2 R base W' aQ aD av cv A C k := by
  refine ⟨h.q.keepT h2, h.d.keepT h2, ⟨h.s.1, h.s.2.imp id ?_⟩, fun i hi => (h.z i hi).keepT h2, h.qd, h.qz, h.dz, h.zz⟩
  rintro ⟨g, cap, cur, e, hg, hbk, hr⟩
  exact ⟨g, cap, cur, e, hg, h3 g cur hbk, hr⟩
/-- the specification's copy -/
def Rnd.cp2 (R : Rnd) (aQ : Option Addr) (cQ : Nat) (aD : Option Addr) (cD : Nat) (av : Option Addr) (cv : Nat) (A : Nat → Option Addr) (C : Nat → Nat) : Rnd :=
  ⟨aQ, R.nQ, cQ, R.q, aD, R.nD, cD, R.d, R.turn, R.fresh, av, R.nS, cv, A, R.L, C, R.z⟩
theorem Cp2.own {R : Rnd} {base : Nat} {W : World} {aQ aD av : Option Addr} {cv : Nat} {A : Nat → Option Addr} {C : Nat → Nat} (h : Cp2 R base W aQ aD av cv A C R.nS) (cQ cD : Nat) : OwnRz W base (R.cp2 aQ cQ aD cD av cv A C) := by
  refine ⟨⟨h.q, h.d, ?_, fun i hi => (h.z i hi).vi, h.qd, fun i hi x hx hy => h.qz i hi x hx (blkI_sub hy), fun i hi x hx hy => h.dz i hi x hx (blkI_sub hy), fun i j hi hj hne x hx hy => h.zz i j hi hj hne x (blkI_sub hx) (blkI_sub hy)⟩, h.z, h.qz, h.dz, h.zz⟩
  rcases h.s.2 with ⟨_, h0⟩ | ⟨g, cap, cur, e, hg, hbk, hnc, hcm, hcs, htake⟩
  · exact .inl h0
  · injection e with e2
    refine .inr ⟨g, e2, hg, cur, hbk, by show R.nS ≤ _; omega, fun i hi => ?_⟩
    have hi' : i < R.nS := hi
    have e3 : (cur.toList.take (R.nS * 1))[i]? = some (.slice (A i) (R.L i) (C i)) := by rw [htake]; simp [slV, hi']
    rw [List.getElem?_take_of_lt (by omega)] at e3
    have e4 : cur[i]? = some (Value.slice (A i) (R.L i) (C i)) := by simpa using e3
    exact e4
end Go.Proofs.Ytnfcmiiibkbmfaa
