/- How a round that comes in by value reads. -/
import Derived.Test.YtapmhpdcgghihaaRows
import Derived.Test.YtapmhpdcgghihaaRn
import Derived.ProofKit
import Derived.OpenShut
import Derived.ShutString
import Derived.ChangeOld
import Derived.Below
import Derived.Deep.Matrix
namespace Go.Proofs.Ytapmhpdcgghihaa
open Go.ChangeShapes Go.WideShapes Go.ChangeAt Go.RowKit
set_option linter.unusedVariables false

theorem laidOutR : laidOutB Try.prog = true := by kernel_rfl
theorem addr_addR (b off i : Nat) : (⟨b, off, none⟩ : Addr).add i = ⟨b, off + i, none⟩ := by unfold Addr.add; split <;> simp_all
theorem array5R {α : Type} {cs : Array α} (h : cs.size = 5) : ∃ c0 c1 c2 c3 c4, cs = #[c0, c1, c2, c3, c4] := by
  obtain ⟨l⟩ := cs
  match l, h with
  | [c0, c1, c2, c3, c4], _ => exact ⟨c0, c1, c2, c3, c4, rfl⟩
theorem open_intRowR {H : Type} {enc : TypeId × Value → H} {W : World} {held : Bool} {fuel : Nat} {v : Value} {x : DataW H × List MemPlace}
    (h : DataW.trod enc Try.prog W 0 (fun _ => true) held fuel 22 [v] = some x) : ∃ (a : Option Addr) (n c : Nat) (f : Nat → Int), v = .slice a n c ∧ n ≤ maxLen ∧ RdRow W a n (fun i => .int .i64 (f i)) := by
  rcases open_ints Try.underlying22 Try.underlying2 (by kernel_rfl) h with ⟨hcs, _⟩ | ⟨x, l, c, zs, hcs, _, hl, hm, hz, _, hcell, hwz⟩
  · simp at hcs
    exact ⟨_, _, _, fun _ => 0, hcs, Nat.zero_le _, RdRow.nil _ _ _⟩
  · simp at hcs
    refine ⟨_, _, _, fun i => zs.getD i 0, hcs, by omega, fun i hi => ?_⟩
    have hz' : zs.length = c := by simpa using hz
    have hci := hcell i (by omega)
    obtain ⟨b, off, spot⟩ := x
    have hspot : spot = none := by simpa [Addr.add] using World.cell?_spot (hcell 0 (by omega))
    subst hspot
    refine ⟨b, off, rfl, ?_⟩
    rw [addr_addR] at hci
    exact hci
theorem open_rowsR {H : Type} {enc : TypeId × Value → H} {W : World} {held : Bool} {fuel : Nat} {v : Value} {x : DataW H × List MemPlace}
    (h : DataW.trod enc Try.prog W 0 (fun _ => true) held fuel 23 [v] = some x) : ∃ (a : Option Addr) (n c : Nat) (A : Nat → Option Addr) (L C : Nat → Nat) (z : Nat → Nat → Int), v = .slice a n c ∧ n ≤ maxLen ∧ RdRow W a n (fun i => .slice (A i) (L i) (C i)) ∧ (∀ i, i < n → L i ≤ maxLen) ∧ ∀ i, i < n → RdRow W (A i) (L i) (fun j => .int .i64 (z i j)) := by
  rcases Go.Deep.open_int_rows Try.underlying23 Try.underlying22 Try.underlying2 (by kernel_rfl) (by kernel_rfl) h with ⟨hcs, _⟩ | ⟨a, len, cap, A, L, C, Z, hcs, _, hl, hm, _, hx⟩
  · simp at hcs
    exact ⟨_, _, _, fun _ => none, fun _ => 0, fun _ => 0, fun _ _ => 0, hcs, Nat.zero_le _, RdRow.nil _ _ _, fun i hi => by omega, fun i hi => by omega⟩
  · simp at hcs
    refine ⟨_, _, _, A, L, C, fun i j => (Z i).getD j 0, hcs, by omega, fun i hi => ?_, fun i hi => ?_, fun i hi j hj => ?_⟩
    · have hci := (hx i (by omega)).1
      obtain ⟨b, off, spot⟩ := a
      have hspot : spot = none := by simpa [Addr.add] using World.cell?_spot (hx 0 (by omega)).1
      subst hspot
      rw [addr_addR] at hci
      exact ⟨b, off, rfl, hci⟩
    · have h1 := hx i (by omega)
      have := h1.2.1
      have := h1.2.2.1
      omega
    · have h1 := hx i (by omega)
      have hLC := h1.2.1
      cases hA : A i with
      | none =>
        have := h1.2.2.2.2.2.1 hA
        omega
      | some a' =>
        have hc := h1.2.2.2.2.2.2 a' hA
        have hci := hc.2 j (by omega)
        obtain ⟨b, off, spot⟩ := a'
        have hspot : spot = none := by simpa [Addr.add] using World.cell?_spot (hc.2 0 (by omega))
        subst hspot
        rw [addr_addR] at hci
        exact ⟨b, off, rfl, hci⟩
theorem open_round {H : Type} {enc : TypeId × Value → H} {W : World} {b0 : Nat} {held : Bool} {r : Reach} {v : Value} {d : DataW H} {p : List MemPlace}
    (hv : Value.okWide Try.prog W r b0 25 v) (h : DataW.Trod enc Try.prog W 0 (fun _ => true) held 25 v d p) : ∃ R : Rnd, v = .agg R.cells ∧ R.Fit ∧ RdRnd W R := by
  obtain ⟨cs, rfl, hsz⟩ := okWide_struct Try.underlying25 hv
  obtain ⟨c0, c1, c2, c3, c4, rfl⟩ := array5R (hsz.trans (by kernel_rfl))
  obtain ⟨fuel, hf⟩ := h
  obtain ⟨xs, n, _, _, hl, hlen, hfs⟩ := DataW.trod_struct Try.underlying25 hf
  match xs, hlen with
  | [y0, y1, y2, y3, y4], _ =>
    have h0 := hfs 0 _ rfl
    have h1 := hfs 1 _ rfl
    have h2 := hfs 2 _ rfl
    have h3 := hfs 3 _ rfl
    have h4 := hfs 4 _ rfl
    have e2 : Try.prog.cellsOf 2 = 1 := by kernel_rfl
    have e4 : Try.prog.cellsOf 4 = 1 := by kernel_rfl
    have e22 : Try.prog.cellsOf 22 = 1 := by kernel_rfl
    have e23 : Try.prog.cellsOf 23 = 1 := by kernel_rfl
    simp [Value.cells, e2, e4, e22, e23] at h0 h1 h2 h3 h4
    obtain ⟨aQ, nQ, cQ, q, rfl, fq, rq⟩ := open_intRowR h0
    obtain ⟨aD, nD, cD, d', rfl, fd, rd⟩ := open_intRowR h1
    obtain ⟨tn, e5, _, _⟩ := DataW.trod_int Try.underlying2 h2
    obtain ⟨fr, e6, _⟩ := DataW.trod_bool Try.underlying4 h3
    obtain ⟨aS, nS, cS, A, L, C, z, rfl, fs, rs, fl, rz⟩ := open_rowsR h4
    simp at e5 e6
    subst e5 e6
    exact ⟨⟨aQ, nQ, cQ, q, aD, nD, cD, d', tn, fr, aS, nS, cS, A, L, C, z⟩, rfl, ⟨fq, fd, fs, fl⟩, ⟨rq, rd, rs, rz⟩⟩
end Go.Proofs.Ytapmhpdcgghihaa
