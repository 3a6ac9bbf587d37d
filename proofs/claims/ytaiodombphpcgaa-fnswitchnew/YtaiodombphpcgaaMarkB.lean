/- Rows, blocks that are touched, worlds between which only draws lie. -/
import Derived.Test.YtaiodombphpcgaaBa
import Derived.Test.YtaiodombphpcgaaBox
import Derived.Laws.BitsAllLaws
import Derived.Laws.BytesArg
import Derived.Laws.MakeOwn
import Derived.Deep.RegionHeld3
import Derived.Deep.QuietTactic
import Derived.BigQuiet
namespace Go.Proofs.Ytaiodombphpcgaa
open Go.RowKit
set_option linter.unusedVariables false
set_option linter.unusedSimpArgs false

/-- all blocks but those of S that were there are as they were -/
structure Touch (S : List Nat) (w w' : World) : Prop where
  os : w'.os = w.os
  tape : w'.tape = w.tape
  output : w'.output = w.output
  size : w.heap.size ≤ w'.heap.size
  block : ∀ k, k < w.heap.size → k ∉ S → w'.heap[k]? = w.heap[k]?
theorem Touch.refl (S : List Nat) (w : World) : Touch S w w := ⟨rfl, rfl, rfl, Nat.le_refl _, fun _ _ _ => rfl⟩
theorem Touch.trans {S : List Nat} {a b c : World} (h : Touch S a b) (k : Touch S b c) : Touch S a c :=
  ⟨k.os.trans h.os, k.tape.trans h.tape, k.output.trans h.output, Nat.le_trans h.size k.size, fun i hi hn => (k.block i (Nat.lt_of_lt_of_le hi h.size) hn).trans (h.block i hi hn)⟩
theorem Touch.mono {S S' : List Nat} {a b : World} (h : Touch S a b) (hs : ∀ x ∈ S, x ∈ S') : Touch S' a b := ⟨h.os, h.tape, h.output, h.size, fun k hk hn => h.block k hk (fun hm => hn (hs k hm))⟩
theorem Touch.ofBelow {S : List Nat} {a b : World} (h : Below a.heap.size a b) : Touch S a b := ⟨h.os, h.tape, h.output, h.size, fun i hi _ => h.block i hi⟩
theorem Touch.below {S : List Nat} {B : Nat} {a b : World} (h : Touch S a b) (hB : B ≤ a.heap.size) (hS : ∀ x ∈ S, B ≤ x) : Below B a b :=
  ⟨h.os, h.tape, h.output, h.size, fun k hk => h.block k (by omega) (fun hm => by have := hS k hm; omega)⟩
theorem Touch.set {S : List Nat} {g : Nat} {a b : World} (h : Touch S a b) (hg : g ∈ S) (i : Nat) (v : Value) : Touch S a (b.setCell ⟨g, i, none⟩ v) :=
  h.trans ⟨rfl, rfl, rfl, by simp [World.setCell], fun k _ hn => blk_set_ne (by intro e; subst e; exact hn hg) v⟩

/-- a row of n cells at the head of block g, written over cell by cell: behind k of them -/
def RowTo (g : Nat) (t : TypeId) (n : Nat) (f : Nat → Value) (k : Nat) (w : World) : Prop :=
  ∃ arr : Array Value, w.heap[g]? = some (.cells arr t (0, 0)) ∧ n ≤ arr.size ∧ ∀ i, i < k → arr[i]? = some (f i)
theorem RowTo.step {g n k : Nat} {t : TypeId} {f : Nat → Value} {w : World} (h : RowTo g t n f k w) (hk : k < n) : RowTo g t n f (k + 1) (w.setCell ⟨g, k, none⟩ (f k)) := by
  obtain ⟨arr, hb, hn, hc⟩ := h
  refine ⟨_, blk_set hb _, by simpa using hn, fun i hi => ?_⟩
  by_cases e : i = k
  · subst e
    rw [Array.getElem?_setIfInBounds_self_of_lt (by omega)]
  · rw [Array.getElem?_setIfInBounds_ne (by omega)]
    exact hc i (by omega)
theorem RowTo.there {g n k : Nat} {t : TypeId} {f : Nat → Value} {w : World} (h : RowTo g t n f k w) (i : Nat) (hi : i < n) : ∃ v, w.cell? ⟨g, i, none⟩ = some v := by
  obtain ⟨arr, hb, hn, hc⟩ := h
  exact ⟨arr[i], by rw [blk_cell hb]; simp⟩
theorem RowTo.free {g n k : Nat} {t : TypeId} {f : Nat → Value} {w : World} (h : RowTo g t n f k w) (i : Nat) : w.frozen? ⟨g, i, none⟩ = false := by
  obtain ⟨arr, hb, hn, hc⟩ := h
  exact blk_free hb i
theorem RowTo.at {g n : Nat} {t : TypeId} {f : Nat → Value} {w : World} (h : RowTo g t n f n w) (i : Nat) (hi : i < n) : w.cell? ⟨g, i, none⟩ = some (f i) := by
  obtain ⟨arr, hb, hn, hc⟩ := h
  rw [blk_cell hb]; exact hc i hi
theorem RowTo.keep {g n k : Nat} {t : TypeId} {f : Nat → Value} {w w' : World} (h : RowTo g t n f k w) (hb : w'.heap[g]? = w.heap[g]?) : RowTo g t n f k w' := by
  obtain ⟨arr, h1, h2, h3⟩ := h
  exact ⟨arr, hb.trans h1, h2, h3⟩
theorem RowTo.lt {g n k : Nat} {t : TypeId} {f : Nat → Value} {w : World} (h : RowTo g t n f k w) : g < w.heap.size := by
  obtain ⟨arr, h1, h2, h3⟩ := h
  exact blk_lt h1
theorem RowTo.anew {g n k : Nat} {t : TypeId} {f f' : Nat → Value} {w : World} (h : RowTo g t n f k w) : RowTo g t n f' 0 w := by
  obtain ⟨arr, h1, h2, h3⟩ := h
  exact ⟨arr, h1, h2, fun i hi => by omega⟩

/-- only draws lie between -/
structure Same (w w' : World) : Prop where
  os : w'.os = w.os
  tape : w'.tape = w.tape
  output : w'.output = w.output
  heap : w'.heap = w.heap
theorem Same.refl (w : World) : Same w w := ⟨rfl, rfl, rfl, rfl⟩
theorem Same.drewN {a b : World} (h : Same a b) (n : Nat) : Same a (b.drewN n) := ⟨h.os, h.tape, h.output, h.heap⟩
theorem Same.cell {a b : World} (h : Same a b) (p : Addr) : b.cell? p = a.cell? p := by unfold World.cell?; rw [h.heap]
theorem Same.below {a b : World} (h : Same a b) (B : Nat) : Below B a b := ⟨h.os, h.tape, h.output, by rw [h.heap]; exact Nat.le_refl _, fun k _ => by rw [h.heap]⟩

end Go.Proofs.Ytaiodombphpcgaa
