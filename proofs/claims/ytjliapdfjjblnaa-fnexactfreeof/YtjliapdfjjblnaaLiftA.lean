/- How an arena that comes in by value reads: two slices, and a number. -/
import Derived.Test.YtjliapdfjjblnaaRows
import Derived.Test.YtjliapdfjjblnaaArMark
import Derived.ProofKit
import Derived.OpenShut
import Derived.ShutString
import Derived.ChangeOld
import Derived.Below
import Derived.SliceStrings
import Derived.Lib.SmallJoins
namespace Go.Proofs.Ytjliapdfjjblnaa
open Go.ChangeShapes Go.WideShapes Go.ChangeAt Go.RowKit
set_option linter.unusedVariables false

theorem laidOutA : laidOutB Try.prog = true := by kernel_rfl
theorem addr_add (b off i : Nat) : (⟨b, off, none⟩ : Addr).add i = ⟨b, off + i, none⟩ := by unfold Addr.add; split <;> simp_all
theorem open_intRow {H : Type} {enc : TypeId × Value → H} {W : World} {held : Bool} {fuel : Nat} {v : Value} {x : DataW H × List MemPlace}
    (h : DataW.trod enc Try.prog W 0 (fun _ => true) held fuel 22 [v] = some x) : ∃ (a : Option Addr) (n c : Nat) (f : Nat → Int), v = .slice a n c ∧ n ≤ maxLen ∧ RdRow W a n (fun i => .int .i64 (f i)) := by
  rcases open_ints Try.underlying22 Try.underlying2 (by kernel_rfl) h with ⟨hcs, _⟩ | ⟨x, l, c, zs, hcs, _, hl, hm, hz, _, hcell, hwz⟩
  · simp at hcs
    exact ⟨_, _, _, fun _ => 0, hcs, Nat.zero_le _, RdRow.nil _ _ _⟩
  · simp at hcs
    refine ⟨_, _, _, fun i => zs.getD i 0, hcs, by omega, fun i hi => ?_⟩
    have hz' : zs.length = c := by simpa using hz
    have hci := hcell i (by omega)
    obtain ⟨b, off, spot⟩ := x
    have hspot : spot = none := by simpa [Addr.add] using World.cell?_spot (hcell 0 (by omega))
    subst hspot
    refine ⟨b, off, rfl, ?_⟩
    rw [addr_add] at hci
    exact hci
theorem open_strRow {H : Type} {enc : TypeId × Value → H} {W : World} {held : Bool} {fuel : Nat} {v : Value} {x : DataW H × List MemPlace}
    (h : DataW.trod enc Try.prog W 0 (fun _ => true) held fuel 23 [v] = some x) : ∃ (a : Option Addr) (n c : Nat) (f : Nat → ByteArray), v = .slice a n c ∧ n ≤ maxLen ∧ RdRow W a n (fun i => .string (f i)) ∧ ∀ i, i < n → (f i).size ≤ maxLen := by
  rcases open_strings Try.underlying23 Try.underlying9 (by kernel_rfl) h with ⟨hcs, _⟩ | ⟨x, l, c, zs, hcs, _, hl, hm, hz, _, hcell, hwz⟩
  · simp at hcs
    exact ⟨_, _, _, fun _ => ⟨#[]⟩, hcs, Nat.zero_le _, RdRow.nil _ _ _, fun i hi => by omega⟩
  · simp at hcs
    have hz' : zs.length = c := by simpa using hz
    refine ⟨_, _, _, fun i => zs.getD i ByteArray.empty, hcs, by omega, fun i hi => ?_, fun i hi => ?_⟩
    · have hci := hcell i (by omega)
      obtain ⟨b, off, spot⟩ := x
      have hspot : spot = none := by simpa [Addr.add] using World.cell?_spot (hcell 0 (by omega))
      subst hspot
      refine ⟨b, off, rfl, ?_⟩
      rw [addr_add] at hci
      exact hci
    · refine hwz _ ?_
      show zs.getD i ByteArray.empty ∈ zs
      rw [List.getD_eq_getElem?_getD, List.getElem?_eq_getElem (by omega)]
      exact List.getElem_mem _
theorem open_arena {H : Type} {enc : TypeId × Value → H} {W : World} {b0 : Nat} {held : Bool} {r : Reach} {v : Value} {d : DataW H} {p : List MemPlace}
    (hv : Value.okWide Try.prog W r b0 25 v) (h : DataW.Trod enc Try.prog W 0 (fun _ => true) held 25 v d p) :
    ∃ (a b : Option Addr) (n m c e : Nat) (fr : Int) (nx : Nat → Int) (dt : Nat → ByteArray), v = .agg #[.slice a n c, .slice b m e, .int .i64 fr] ∧ n ≤ maxLen ∧ m ≤ maxLen ∧ RdRow W a n (fun i => .int .i64 (nx i)) ∧ RdRow W b m (fun i => .string (dt i)) ∧ ∀ i, i < m → (dt i).size ≤ maxLen := by
  obtain ⟨v0, v1, v2, y0, y1, y2, k, rfl, _, _, h0, h1, h2⟩ := Go.Joins.open_agg3 Try.underlying25 (by kernel_rfl) (by kernel_rfl) hv h
  obtain ⟨a, n, c, nx, rfl, hn, r0⟩ := open_intRow h0
  obtain ⟨b, m, e, dt, rfl, hm, r1, hd⟩ := open_strRow h1
  obtain ⟨fr, e2, _, _⟩ := DataW.trod_int Try.underlying2 h2
  simp at e2
  subst e2
  exact ⟨a, b, n, m, c, e, fr, nx, dt, rfl, hn, hm, r0, r1, hd⟩
end Go.Proofs.Ytjliapdfjjblnaa
