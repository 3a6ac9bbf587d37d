/- How a table that comes in reads: a slice of entries. -/
import Derived.Test.YtaikjgjdggpnjaaRows
import Derived.Test.YtaikjgjdggpnjaaEnt
import Derived.ProofKit
import Derived.OpenShut
import Derived.ShutString
import Derived.ChangeOld
import Derived.Below
import Derived.Deep.Slices
namespace Go.Proofs.Ytaikjgjdggpnjaa
open Go.ChangeShapes Go.WideShapes Go.ChangeAt Go.RowKit
set_option linter.unusedVariables false

theorem laidOutT : laidOutB Try.prog = true := by kernel_rfl
theorem addr_addT (b off i : Nat) : (⟨b, off, none⟩ : Addr).add i = ⟨b, off + i, none⟩ := by unfold Addr.add; split <;> simp_all
theorem open_entRow {H : Type} {enc : TypeId × Value → H} {W : World} {held : Bool} {fuel : Nat} {v : Value} {x : DataW H × List MemPlace}
    (h : DataW.trod enc Try.prog W 0 (fun _ => true) held fuel 22 [v] = some x) : ∃ (a : Option Addr) (n c : Nat) (f : Nat → Ent), v = .slice a n c ∧ n ≤ maxLen ∧ RdEnt W a n f := by
  rcases Go.Deep.open_slice Try.underlying22 h with ⟨hcs, _⟩ | ⟨a, len, cap, m, n, D, Pl, hcs, hb, hl, hm, hmm, _, hx⟩
  · simp at hcs
    exact ⟨_, _, _, fun _ => default, hcs, Nat.zero_le _, RdEnt.nil _ _ _⟩
  · simp at hcs hmm
    subst hmm
    have each : ∀ i, i < m → ∃ y : Ent, W.cell? (a.add (i * 3)) = some (.int .i64 y.m) ∧ W.cell? (a.add (i * 3 + 1)) = some (.int .i64 y.p) ∧ W.cell? (a.add (i * 3 + 2)) = some (.int .i64 y.t) := by
      intro i hi
      obtain ⟨cs', h1, h2⟩ := hx i hi
      rw [show Try.prog.cellsOf 42 = 3 by kernel_rfl] at h1
      obtain ⟨_, hlen, hcell⟩ := World.cells?_some h1
      obtain ⟨xs, k, hk, hxy, _, hxl, hf⟩ := DataW.trod_struct Try.underlying42 h2
      match xs, hxl, cs', hlen with
      | [y0, y1, y2], _, [v0, v1, v2], _ =>
        have g0 := hf 0 _ rfl
        have g1 := hf 1 _ rfl
        have g2 := hf 2 _ rfl
        simp [show Try.prog.cellsOf 2 = 1 by kernel_rfl] at g0 g1 g2
        obtain ⟨z0, q0, _, _⟩ := DataW.trod_int Try.underlying2 g0
        obtain ⟨z1, q1, _, _⟩ := DataW.trod_int Try.underlying2 g1
        obtain ⟨z2, q2, _, _⟩ := DataW.trod_int Try.underlying2 g2
        simp at q0 q1 q2
        subst q0 q1 q2
        have e0 := hcell 0 (by omega)
        have e1 := hcell 1 (by omega)
        have e2 := hcell 2 (by omega)
        rw [Go.Deep.add_add] at e0 e1 e2
        exact ⟨⟨z0, z1, z2⟩, by simpa using e0, by simpa using e1, by simpa using e2⟩
    obtain ⟨f, hf⟩ := Go.Deep.choose_lt each
    refine ⟨_, _, _, f, hcs, by omega, fun i hi => ?_⟩
    obtain ⟨q1, q2, q3⟩ := hf i (by omega)
    obtain ⟨b, off, spot⟩ := a
    have hspot : spot = none := by simpa [Addr.add] using World.cell?_spot (hf 0 (by omega)).1
    subst hspot
    rw [addr_addT] at q1 q2 q3
    exact ⟨b, off, rfl, q1, q2, q3⟩
theorem open_ents {H : Type} {enc : TypeId × Value → H} {W : World} {held : Bool} {a : Option Addr} {len cap : Nat} {d : DataW H} {p : List MemPlace}
    (h : DataW.Trod enc Try.prog W 0 (fun _ => true) held 22 (.slice a len cap) d p) : len ≤ maxLen ∧ ∃ f, RdEnt W a len f := by
  obtain ⟨fuel, hf⟩ := h
  obtain ⟨a', n, c, f, e, hn, r⟩ := open_entRow (v := .slice a len cap) hf
  cases e
  exact ⟨hn, f, r⟩
end Go.Proofs.Ytaikjgjdggpnjaa
