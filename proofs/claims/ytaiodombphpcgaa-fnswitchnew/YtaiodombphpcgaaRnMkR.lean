/- Rounds that own their rows: marked, and looked at again. -/
import Derived.Test.YtaiodombphpcgaaRnNew2
namespace Go.Proofs.Ytaiodombphpcgaa
open Go.RowKit
set_option linter.unusedVariables false
set_option linter.unusedSimpArgs false

theorem notInI {w : World} {base : Nat} {a : Option Addr} {n : Nat} {f : Nat → Int} (h : VI w base a n f) {g : Nat} {arr : Array Value} {t : TypeId} (ht : t ≠ 2) (hg : w.heap[g]? = some (.cells arr t (0, 0))) : g ∉ blkI a n := by
  intro hx
  unfold blkI at hx
  split at hx
  · simp at hx
  · rename_i h0
    rcases h with h1 | ⟨g', rfl, _, arr', h2, _⟩
    · exact h0 h1
    · simp at hx
      subst hx
      rw [hg] at h2
      simp at h2
      exact ht h2.2
theorem VS.touchI {w w' : World} {base : Nat} {a : Option Addr} {n : Nat} {F : Nat → Value} {S : List Nat} (h : VS w base a n F) (ht : Touch S w w') (hS : ∀ g arr, w.heap[g]? = some (.cells arr 28 (0, 0)) → g ∉ S) : VS w' base a n F :=
  h.imp id (by
    rintro ⟨g, ha, hg, hr⟩
    refine ⟨g, ha, hg, hr.keep (ht.block g hr.lt ?_)⟩
    obtain ⟨arr, h2, _⟩ := hr
    exact hS g arr h2)
theorem OwnRn.marksQ {w w' : World} {base : Nat} {R : Rnd} {f : Nat → Int} (h : OwnRn w base R) (hv : VI w' base R.aQ R.nQ f) (ht : Touch (blkI R.aQ R.nQ) w w') : OwnRn w' base { R with q := f } :=
  ⟨hv, h.d.touchS ht h.qd.symm, h.s.touchI ht (fun g arr hg => notInI h.q (by decide) hg), fun i hi => (h.z i hi).touchS ht (h.qz i hi).symm, h.qd, h.qz, h.dz, h.zz⟩
theorem OwnRn.marksD {w w' : World} {base : Nat} {R : Rnd} {f : Nat → Int} (h : OwnRn w base R) (hv : VI w' base R.aD R.nD f) (ht : Touch (blkI R.aD R.nD) w w') : OwnRn w' base { R with d := f } :=
  ⟨h.q.touchS ht h.qd, hv, h.s.touchI ht (fun g arr hg => notInI h.d (by decide) hg), fun i hi => (h.z i hi).touchS ht (h.dz i hi).symm, h.qd, h.qz, h.dz, h.zz⟩
def zBlk (R : Rnd) : List Nat := (List.range R.nS).flatMap fun i => blkI (R.A i) (R.L i)
theorem zBlk_mem {R : Rnd} {x : Nat} : x ∈ zBlk R ↔ ∃ i, i < R.nS ∧ x ∈ blkI (R.A i) (R.L i) := by simp [zBlk]
theorem OwnRn.notZ {w : World} {base : Nat} {R : Rnd} (h : OwnRn w base R) {g : Nat} {arr : Array Value} {t : TypeId} (ht : t ≠ 2) (hg : w.heap[g]? = some (.cells arr t (0, 0))) : g ∉ zBlk R := by
  intro hx
  obtain ⟨i, hi, hx⟩ := zBlk_mem.1 hx
  exact notInI (h.z i hi) ht hg hx
theorem OwnRn.marksZ {w w' : World} {base : Nat} {R : Rnd} {z : Nat → Nat → Int} (h : OwnRn w base R) (hv : ∀ i, i < R.nS → VI w' base (R.A i) (R.L i) (z i)) (ht : Touch (zBlk R) w w') : OwnRn w' base { R with z := z } :=
  ⟨h.q.touchS ht (fun x hx hx2 => by
    obtain ⟨i, hi, hx2⟩ := zBlk_mem.1 hx2
    exact h.qz i hi x hx hx2), h.d.touchS ht (fun x hx hx2 => by
    obtain ⟨i, hi, hx2⟩ := zBlk_mem.1 hx2
    exact h.dz i hi x hx hx2), h.s.touchI ht (fun g arr hg => h.notZ (by decide) hg), hv, h.qd, h.qz, h.dz, h.zz⟩
def Rnd.marked (R : Rnd) (m : Nat) : Rnd := { R with q := fun i => ((m + i : Nat) : Int), d := fun i => ((m + R.nQ + i : Nat) : Int), z := fun i j => ((m + R.nQ + R.nD + sumL R.L i + j : Nat) : Int) }
def Rnd.total (R : Rnd) (m : Nat) : Nat := m + R.nQ + R.nD + sumL R.L R.nS
/-- a round is not written where all that is written lies behind it -/
theorem OwnRn.touchHi {w w' w0 : World} {base : Nat} {R : Rnd} {S : List Nat} (h : OwnRn w base R) (h0 : OwnRn w0 base R) (ht : Touch S w w') (hS : ∀ x ∈ S, w0.heap.size ≤ x) : OwnRn w' base R :=
  have key : ∀ {a : Option Addr} {n : Nat} {f : Nat → Int}, VI w base a n f → VI w0 base a n f → VI w' base a n f := fun hv hv0 => hv.touchS ht (fun x hx hx2 => by
    have h1 := (hv0.blk x hx).2
    have h2 := hS x hx2
    omega)
  ⟨key h.q h0.q, key h.d h0.d, by
    rcases h.s with h1 | ⟨g, ha, hg, hr⟩
    · exact .inl h1
    · by_cases hn : R.nS = 0
      · exact .inl hn
      rcases h0.s with h1 | ⟨g2, ha2, _, hr2⟩
      · exact absurd h1 hn
      · rw [ha] at ha2
        cases ha2
        exact .inr ⟨g, ha, hg, hr.keep (ht.block g hr.lt (fun hx => by have := hS g hx; have := hr2.lt; omega))⟩, fun i hi => key (h.z i hi) (h0.z i hi), h.qd, h.qz, h.dz, h.zz⟩
end Go.Proofs.Ytaiodombphpcgaa
