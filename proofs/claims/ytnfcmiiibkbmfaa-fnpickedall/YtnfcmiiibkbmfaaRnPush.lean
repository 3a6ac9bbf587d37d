/- One size more behind a class of a round that owns its rows. -/
import Derived.Test.YtnfcmiiibkbmfaaRnCp
namespace Go.Proofs.Ytnfcmiiibkbmfaa
open Go.RowKit
set_option linter.unusedVariables false
set_option linter.unusedSimpArgs false

def pushZ (n : Nat) (s : Int) (z : Nat → Int) (j : Nat) : Int := if j = n then s else z j
theorem intsV_push (n : Nat) (s : Int) (z : Nat → Int) : intsV n z ++ [.int .i64 s] = intsV (n + 1) (pushZ n s z) := by
  unfold intsV
  rw [List.range_succ, List.map_append]
  congr 1
  · refine List.map_congr_left fun j hj => ?_
    have : j < n := List.mem_range.1 hj
    unfold pushZ
    rw [if_neg (by omega)]
  · simp [pushZ]
def Rnd.push (R : Rnd) (c : Nat) (s : Int) (a' : Option Addr) (c' : Nat) : Rnd :=
  { R with A := fun i => if i = c then a' else R.A i, L := fun i => if i = c then R.L c + 1 else R.L i, C := fun i => if i = c then c' else R.C i, z := fun i j => if i = c then pushZ (R.L c) s (R.z c) j else R.z i j }
theorem VI.keepB {W W2 : World} {base : Nat} {a : Option Addr} {n : Nat} {f : Nat → Int} (h : VI W base a n f) (hk : ∀ x ∈ blkI a n, x < W.heap.size → W2.heap[x]? = W.heap[x]?) : VI W2 base a n f := by
  by_cases h0 : n = 0
  · exact .inl h0
  rcases h with h1 | ⟨g, rfl, hg, hr⟩
  · exact absurd h1 h0
  · exact .inr ⟨g, rfl, hg, hr.keep (hk g (blkI_mem h0) hr.lt)⟩
structure Pushed (R : Rnd) (base : Nat) (W W2 : World) (c gS : Nat) (s : Int) (a' : Option Addr) (c' : Nat) : Prop where
  own : OwnRn (W2.setCell ⟨gS, c, none⟩ (.slice a' (R.L c + 1) c')) base (R.push c s a' c')
  below : Below base W (W2.setCell ⟨gS, c, none⟩ (.slice a' (R.L c + 1) c'))
  row : RowTo gS 24 R.nS (fun i => .slice (R.A i) (R.L i) (R.C i)) R.nS W2
  box : ∀ (g : Nat) (arr : Array Value) (t : TypeId), t ≠ 2 → W.heap[g]? = some (.cells arr t (0, 0)) → W2.heap[g]? = some (.cells arr t (0, 0))
theorem OwnRz.pushed {R : Rnd} {base : Nat} {W : World} {c gS : Nat} (h : OwnRz W base R) (hc : c < R.nS) (hl : R.L c ≤ 1000) (hb : base ≤ W.heap.size) (hS : R.aS = some ⟨gS, 0, none⟩) (s : Int) :
    ∃ a' c' W2, (Builtin.append_ #[24, 24] 24 #[.slice (R.A c) (R.L c) (R.C c), .slice (some ⟨W.heap.size, 0, none⟩) 1 1]).run Try.prog (W.alloc (.cells #[.int .i64 s] 2)) = .ok (.slice a' (R.L c + 1) c') W2 ∧ Pushed R base W W2 c gS s a' c' := by
  obtain ⟨i0, hi, hz0, hz1, hz2⟩ := info_parts info2
  have hA : Below W.heap.size W (W.alloc (.cells #[.int .i64 s] 2)) := (Below.refl _ _).alloc (Nat.le_refl _) _
  have e1 : (W.alloc (.cells #[.int .i64 s] 2)).heap.size = W.heap.size + 1 := by simp
  have hnew := blk_cell (blk_new W (.cells #[.int .i64 s] 2))
  obtain ⟨v', W2, hr, h2, h3, h4, h5⟩ := run_append_own_at (P := Try.prog) (W.alloc (.cells #[.int .i64 s] 2)) base 24 24 2 i0 (.int .i64 0) 1 8 Try.underlying24 hi hz0 hz1 hz2 rfl (by decide) (.slice (R.A c) (R.L c) (R.C c)) (R.L c) (intsV (R.L c) (R.z c)) ((h.z c hc).up hA) ⟨W.heap.size, 0, none⟩ 1 1 [.int .i64 s] rfl (fun j u hj => by
    have hj0 : j = 0 := by
      have := (List.getElem?_eq_some_iff.1 hj).1
      simp at this
      exact this
    subst hj0
    have e : (⟨W.heap.size, 0, none⟩ : Addr).add 0 = ⟨W.heap.size, 0, none⟩ := by unfold Addr.add; split <;> simp_all
    rw [e, hnew 0]
    simpa using hj) (fun u hu => by
    simp at hu
    subst hu
    rfl) (by unfold maxLen; omega) (by omega) (by omega)
  rw [intsV_push] at h2
  obtain ⟨a', c', rfl, hv⟩ := own_vi h2
  refine ⟨a', c', W2, hr, ?_⟩
  have hown : ∀ x, x ∈ blkO (R.A c) ↔ some x = (Value.slice (R.A c) (R.L c) (R.C c)).ownBlock := by
    intro x
    cases R.A c with
    | none => simp [blkO, Value.ownBlock]
    | some ad => simp [blkO, Value.ownBlock]
  have hblk : ∀ k, k < W.heap.size → k ∉ blkO (R.A c) → W2.heap[k]? = W.heap[k]? := fun k hk hne => (h3.block k (by omega) (fun e => hne ((hown k).2 e))).trans (hA.block k hk)
  have hty : ∀ x ∈ blkO (R.A c), ∃ arr, W.heap[x]? = some (.cells arr 2 (0, 0)) := fun x hx => by
    rcases (h.z c hc).2 with ⟨e, _⟩ | ⟨g, cap, cur, e, hg, hbk, _⟩
    · injection e with e2
      rw [e2] at hx
      simp [blkO] at hx
    · have e2 : R.A c = some ⟨g, 0, none⟩ := by injection e with e2
      rw [e2] at hx
      simp [blkO] at hx
      subst hx
      exact ⟨cur, hbk⟩
  have hnt : ∀ (g : Nat) (arr : Array Value) (t : TypeId), t ≠ 2 → W.heap[g]? = some (.cells arr t (0, 0)) → g ∉ blkO (R.A c) := fun g arr t ht hg hx => by
    obtain ⟨arr', h'⟩ := hty g hx
    rw [hg] at h'
    simp at h'
    exact ht h'.2
  rcases h.own.s with h0 | ⟨g, hg, hbg, hrow⟩
  · omega
  rw [hS] at hg
  cases hg
  have hrow2 : RowTo gS 24 R.nS (fun i => .slice (R.A i) (R.L i) (R.C i)) R.nS W2 := by
    refine hrow.keep (hblk gS hrow.lt ?_)
    obtain ⟨arr, hx, _⟩ := hrow
    exact hnt gS arr _ (by decide) hx
  obtain ⟨arr2, hb2, hn2, hc2⟩ := hrow2
  have ht : Touch [gS] W2 (W2.setCell ⟨gS, c, none⟩ (.slice a' (R.L c + 1) c')) := (Touch.refl _ _).set (by simp) c _
  have key2 : ∀ {a : Option Addr} {n : Nat} {f : Nat → Int}, VI W2 base a n f → VI (W2.setCell ⟨gS, c, none⟩ (.slice a' (R.L c + 1) c')) base a n f := fun hv => hv.touchS ht (fun x hx hx2 => by
    simp at hx2
    subst hx2
    exact notInI hv (by decide) hb2 hx)
  have key : ∀ {a : Option Addr} {n : Nat} {f : Nat → Int}, VI W base a n f → (∀ x ∈ blkI a n, x ∉ blkO (R.A c)) → VI (W2.setCell ⟨gS, c, none⟩ (.slice a' (R.L c + 1) c')) base a n f := fun hv hp => key2 (hv.keepB (fun x hx hlt => hblk x hlt (hp x hx)))
  have hnb : ∀ x ∈ blkI a' (R.L c + 1), x ∈ blkO (R.A c) ∨ x = W.heap.size + 1 := fun x hx => by
    have hx' := blkI_sub hx
    cases a' with
    | none => simp [blkO] at hx'
    | some ad =>
      simp [blkO] at hx'
      subst hx'
      rcases h5 with h5 | h5
      · exact .inl ((hown _).2 (by rw [← h5]; rfl))
      · right
        rw [e1] at h5
        simpa [Value.ownBlock] using h5
  have hap : ∀ {a : Option Addr} {n : Nat} {f : Nat → Int}, VI W base a n f → (∀ x ∈ blkI a n, x ∉ blkO (R.A c)) → apartI a n a' (R.L c + 1) := fun hv hp x hx hy => by
    rcases hnb x hy with h6 | h6
    · exact hp x hx h6
    · have := (hv.blk x hx).2
      omega
  have hpz : ∀ i, i < R.nS → i ≠ c → ∀ x ∈ blkI (R.A i) (R.L i), x ∉ blkO (R.A c) := fun i hi hne x hx => h.zz i c hi hc hne x (blkI_sub hx)
  refine ⟨⟨key h.own.q (h.qz c hc), key h.own.d (h.dz c hc), .inr ⟨gS, hS, hbg, ?_⟩, fun i hi => ?_, h.own.qd, fun i hi => ?_, fun i hi => ?_, fun i j hi hj hne => ?_⟩, ?_, ⟨arr2, hb2, hn2, hc2⟩, fun g arr t htt hg => (hblk g (blk_lt hg) (hnt g arr t htt hg)).trans hg⟩
  · refine ⟨_, blk_set hb2 _, by simpa [Rnd.push] using hn2, fun i hi => ?_⟩
    show _ = some (Value.slice (if i = c then a' else R.A i) (if i = c then R.L c + 1 else R.L i) (if i = c then c' else R.C i))
    by_cases e : i = c
    · subst e
      simp only [if_true]
      exact Array.getElem?_setIfInBounds_self_of_lt (by omega)
    · rw [Array.getElem?_setIfInBounds_ne (by omega), hc2 i hi, if_neg e, if_neg e, if_neg e]
  · show VI _ base (if i = c then a' else R.A i) (if i = c then R.L c + 1 else R.L i) (fun j => if i = c then pushZ (R.L c) s (R.z c) j else R.z i j)
    by_cases e : i = c
    · subst e
      simp only [if_true]
      exact key2 hv
    · simp only [if_neg e]
      exact key (h.own.z i hi) (hpz i hi e)
  · show apartI R.aQ R.nQ (if i = c then a' else R.A i) (if i = c then R.L c + 1 else R.L i)
    by_cases e : i = c
    · subst e
      simp only [if_true]
      exact hap h.own.q (h.qz i hc)
    · simp only [if_neg e]
      exact h.own.qz i hi
  · show apartI R.aD R.nD (if i = c then a' else R.A i) (if i = c then R.L c + 1 else R.L i)
    by_cases e : i = c
    · subst e
      simp only [if_true]
      exact hap h.own.d (h.dz i hc)
    · simp only [if_neg e]
      exact h.own.dz i hi
  · show apartI (if i = c then a' else R.A i) (if i = c then R.L c + 1 else R.L i) (if j = c then a' else R.A j) (if j = c then R.L c + 1 else R.L j)
    by_cases e : i = c
    · have e2 : j ≠ c := fun e2 => hne (e.trans e2.symm)
      simp only [if_pos e, if_neg e2]
      exact (hap (h.own.z j hj) (hpz j hj e2)).symm
    · by_cases e2 : j = c
      · simp only [if_neg e, if_pos e2]
        exact hap (h.own.z i hi) (hpz i hi e)
      · simp only [if_neg e, if_neg e2]
        exact h.own.zz i j hi hj hne
  · exact (((Below.refl base W).alloc hb (.cells #[.int .i64 s] 2)).grown h3 (by omega) (fun k e => ((h.z c hc).blk k ((hown k).2 e.symm)).1)).setCell hbg _
end Go.Proofs.Ytnfcmiiibkbmfaa
