/- Lanes: rows of them, two held against each other. -/
import Derived.Test.YtaiodombphpcgaaRnMkR
import Derived.Maps.AppendAt
import Derived.Room.AppendFits
namespace Go.Proofs.Ytaiodombphpcgaa
open Go.RowKit
set_option linter.unusedVariables false
set_option linter.unusedSimpArgs false

structure Ln where
  st : Bool
  aU : Option Addr
  cU : Nat
  R : Rnd
def Ln.cells (l : Ln) : Array Value := #[.bool l.st, .slice none 0 0, .slice l.aU 2 l.cU, .slice l.R.aQ l.R.nQ l.R.cQ, .slice l.R.aD l.R.nD l.R.cD, .int .i64 l.R.turn, .bool l.R.fresh, .slice l.R.aS l.R.nS l.R.cS]
theorem Ln.cells_size (l : Ln) : l.cells.size = 8 := rfl
def flatL (L : Nat → Ln) (j : Nat) : Value := ((L (j / 8)).cells[j % 8]?).getD (.bool false)
theorem flatL_at (L : Nat → Ln) (i j : Nat) (h : j < 8) : some (flatL L (i * 8 + j)) = (L i).cells[j]? := by
  unfold flatL
  rw [show (i * 8 + j) / 8 = i by omega, show (i * 8 + j) % 8 = j by omega]
  have : j < (L i).cells.size := by rw [Ln.cells_size]; exact h
  simp [this]
/-- a slice of n lanes -/
def RdLn (w : World) (a : Option Addr) (n : Nat) (L : Nat → Ln) : Prop := ∀ i, i < n → ∃ g o, a = some ⟨g, o, none⟩ ∧ ∀ j, j < 8 → w.cell? ⟨g, o + i * 8 + j, none⟩ = (L i).cells[j]?
theorem RdLn.nil (w : World) (a : Option Addr) (L : Nat → Ln) : RdLn w a 0 L := fun i hi => by omega
theorem RdLn.up {w w2 : World} {a : Option Addr} {n : Nat} {L : Nat → Ln} (h : RdLn w a n L) (hb : Below w.heap.size w w2) : RdLn w2 a n L := by
  intro i hi
  obtain ⟨g, o, ha, hc⟩ := h i hi
  refine ⟨g, o, ha, fun j hj => ?_⟩
  have h2 := hc j hj
  have h3 : j < (L i).cells.size := by rw [Ln.cells_size]; exact hj
  rw [Array.getElem?_eq_getElem h3] at h2
  exact ((hb.cell (p := ⟨g, o + i * 8 + j, none⟩) (cellLt h2)).trans h2).trans (Array.getElem?_eq_getElem h3).symm
theorem RowTo.lanes {g n : Nat} {t : TypeId} {L : Nat → Ln} {w : World} (h : RowTo g t (n * 8) (flatL L) (n * 8) w) : RdLn w (some ⟨g, 0, none⟩) n L := by
  intro i hi
  refine ⟨g, 0, rfl, fun j hj => ?_⟩
  rw [Nat.zero_add, h.at (i * 8 + j) (by omega), flatL_at L i j hj]
/-- two lanes that read alike -/
structure EqL (w : World) (l1 l2 : Ln) : Prop where
  st : l2.st = l1.st
  u1 : RdRow w l1.aU 2 fun _ => .slice none 0 0
  u2 : RdRow w l2.aU 2 fun _ => .slice none 0 0
  hs : l1.R.Small
  h1 : RdRnd w l1.R
  h2 : RdRnd w l2.R
  ha : Alike l1.R l2.R
theorem EqL.up {w w2 : World} {l1 l2 : Ln} (h : EqL w l1 l2) (hb : Below w.heap.size w w2) : EqL w2 l1 l2 := ⟨h.st, h.u1.up hb, h.u2.up hb, h.hs, h.h1.up hb, h.h2.up hb, h.ha⟩
end Go.Proofs.Ytaiodombphpcgaa
