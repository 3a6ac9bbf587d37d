/- Rounds that own their rows: marked with numbers of their own, and looked at again. -/
import Derived.Test.YtaiodombphpcgaaRnTo2
namespace Go.Proofs.Ytaiodombphpcgaa
open Go.RowKit
set_option linter.unusedVariables false
set_option linter.unusedSimpArgs false

/-- a slice of numbers that owns its row, or has none -/
def VI (w : World) (base : Nat) (a : Option Addr) (n : Nat) (f : Nat → Int) : Prop := n = 0 ∨ ∃ g, a = some ⟨g, 0, none⟩ ∧ base ≤ g ∧ RowTo g 2 n (fun i => .int .i64 (f i)) n w
def blkI (a : Option Addr) (n : Nat) : List Nat := if n = 0 then [] else (a.map (·.block)).toList
def apartI (a : Option Addr) (n : Nat) (a' : Option Addr) (n' : Nat) : Prop := ∀ x ∈ blkI a n, x ∉ blkI a' n'
theorem apartI.symm {a a' : Option Addr} {n n' : Nat} (h : apartI a n a' n') : apartI a' n' a n := fun x hx hy => h x hy hx
theorem VI.read {w : World} {base : Nat} {a : Option Addr} {n : Nat} {f : Nat → Int} (h : VI w base a n f) : RdRow w a n fun i => .int .i64 (f i) := by
  rcases h with rfl | ⟨g, rfl, _, hr⟩
  · exact RdRow.nil _ _ _
  · exact hr.read
theorem VI.up {w w' : World} {base : Nat} {a : Option Addr} {n : Nat} {f : Nat → Int} (h : VI w base a n f) (hb : Below w.heap.size w w') : VI w' base a n f :=
  h.imp id (by rintro ⟨g, ha, hg, hr⟩; exact ⟨g, ha, hg, hr.keep (hb.block _ hr.lt)⟩)
theorem VI.mono {w : World} {base base' : Nat} {a : Option Addr} {n : Nat} {f : Nat → Int} (h : VI w base a n f) (hb : base' ≤ base) : VI w base' a n f :=
  h.imp id (by rintro ⟨g, ha, hg, hr⟩; exact ⟨g, ha, by omega, hr⟩)
theorem blkI_mem {g n : Nat} (h : n ≠ 0) : g ∈ blkI (some ⟨g, 0, none⟩) n := by unfold blkI; rw [if_neg h]; simp
theorem VI.touchS {w w' : World} {base : Nat} {a : Option Addr} {n : Nat} {f : Nat → Int} {S : List Nat} (h : VI w base a n f) (ht : Touch S w w') (hp : ∀ x ∈ blkI a n, x ∉ S) : VI w' base a n f := by
  rcases h with h | ⟨g, rfl, hg, hr⟩
  · exact .inl h
  · by_cases h0 : n = 0
    · exact .inl h0
    exact .inr ⟨g, rfl, hg, hr.keep (ht.block g hr.lt (hp g (blkI_mem h0)))⟩
theorem VI.blk {w : World} {base : Nat} {a : Option Addr} {n : Nat} {f : Nat → Int} (h : VI w base a n f) : ∀ x ∈ blkI a n, base ≤ x ∧ x < w.heap.size := by
  intro x hx
  unfold blkI at hx
  split at hx
  · simp at hx
  · rcases h with h | ⟨g, rfl, hg, hr⟩
    · contradiction
    · simp at hx; subst hx; exact ⟨hg, hr.lt⟩
/-- how many lie ahead of row i -/
def sumL (L : Nat → Nat) : Nat → Nat
  | 0 => 0
  | k + 1 => sumL L k + L k
theorem sumL_le (L : Nat → Nat) {i k : Nat} (h : i ≤ k) : sumL L i ≤ sumL L k := by
  induction k with
  | zero => obtain rfl : i = 0 := by omega
            exact Nat.le_refl _
  | succ k ih =>
    by_cases e : i = k + 1
    · rw [e]; exact Nat.le_refl _
    · have := ih (by omega)
      show sumL L i ≤ sumL L k + L k
      omega
end Go.Proofs.Ytaiodombphpcgaa
