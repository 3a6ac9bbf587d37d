/- How configurations and counts that come in by value read. -/
import Derived.Test.YtalbkpofiobmiaaRows
import Derived.Test.YtalbkpofiobmiaaCnC
import Derived.ProofKit
import Derived.OpenShut
import Derived.ShutString
import Derived.ChangeOld
import Derived.Below
import Derived.Deep.Matrix
import Derived.Deep.Grids
namespace Go.Proofs.Ytalbkpofiobmiaa
open Go.ChangeShapes Go.WideShapes Go.ChangeAt Go.RowKit
set_option linter.unusedVariables false

theorem laidOutC : laidOutB Try.prog = true := by kernel_rfl
theorem ownOkC : ownKnob Try.prog.godebug = none := by kernel_rfl
theorem addr_addC (b off i : Nat) : (⟨b, off, none⟩ : Addr).add i = ⟨b, off + i, none⟩ := by unfold Addr.add; split <;> simp_all
theorem array3C {α : Type} {cs : Array α} (h : cs.size = 3) : ∃ c0 c1 c2, cs = #[c0, c1, c2] := by
  obtain ⟨l⟩ := cs
  match l, h with
  | [c0, c1, c2], _ => exact ⟨c0, c1, c2, rfl⟩
theorem array7C {α : Type} {cs : Array α} (h : cs.size = 7) : ∃ c0 c1 c2 c3 c4 c5 c6, cs = #[c0, c1, c2, c3, c4, c5, c6] := by
  obtain ⟨l⟩ := cs
  match l, h with
  | [c0, c1, c2, c3, c4, c5, c6], _ => exact ⟨c0, c1, c2, c3, c4, c5, c6, rfl⟩
theorem open_intRowC {H : Type} {enc : TypeId × Value → H} {W : World} {held : Bool} {fuel : Nat} {v : Value} {x : DataW H × List MemPlace}
    (h : DataW.trod enc Try.prog W 0 (fun _ => true) held fuel 28 [v] = some x) : ∃ (a : Option Addr) (n c : Nat) (f : Nat → Int), v = .slice a n c ∧ n ≤ maxLen ∧ RdRow W a n (fun i => .int .i64 (f i)) := by
  rcases open_ints Try.underlying28 Try.underlying2 (by kernel_rfl) h with ⟨hcs, _⟩ | ⟨x, l, c, zs, hcs, _, hl, hm, hz, _, hcell, hwz⟩
  · simp at hcs
    exact ⟨_, _, _, fun _ => 0, hcs, Nat.zero_le _, RdRow.nil _ _ _⟩
  · simp at hcs
    refine ⟨_, _, _, fun i => zs.getD i 0, hcs, by omega, fun i hi => ?_⟩
    have hz' : zs.length = c := by simpa using hz
    have hci := hcell i (by omega)
    obtain ⟨b, off, spot⟩ := x
    have hspot : spot = none := by simpa [Addr.add] using World.cell?_spot (hcell 0 (by omega))
    subst hspot
    refine ⟨b, off, rfl, ?_⟩
    rw [addr_addC] at hci
    exact hci
theorem open_boolRowC {H : Type} {enc : TypeId × Value → H} {W : World} {held : Bool} {fuel : Nat} {v : Value} {x : DataW H × List MemPlace}
    (h : DataW.trod enc Try.prog W 0 (fun _ => true) held fuel 29 [v] = some x) : ∃ (a : Option Addr) (n c : Nat) (f : Nat → Bool), v = .slice a n c ∧ n ≤ maxLen ∧ RdRow W a n (fun i => .bool (f i)) := by
  rcases Go.Deep.open_bools Try.underlying29 Try.underlying4 (by kernel_rfl) h with ⟨hcs, _⟩ | ⟨x, l, c, B, hcs, _, hl, hm, _, hcell⟩
  · simp at hcs
    exact ⟨_, _, _, fun _ => false, hcs, Nat.zero_le _, RdRow.nil _ _ _⟩
  · simp at hcs
    refine ⟨_, _, _, B, hcs, by omega, fun i hi => ?_⟩
    have hci := hcell i (by omega)
    obtain ⟨b, off, spot⟩ := x
    have hspot : spot = none := by simpa [Addr.add] using World.cell?_spot (hcell 0 (by omega))
    subst hspot
    refine ⟨b, off, rfl, ?_⟩
    rw [addr_addC] at hci
    exact hci
theorem open_config {H : Type} {enc : TypeId × Value → H} {W : World} {b0 : Nat} {held : Bool} {r : Reach} {v : Value} {d : DataW H} {p : List MemPlace}
    (hv : Value.okWide Try.prog W r b0 23 v) (h : DataW.Trod enc Try.prog W 0 (fun _ => true) held 23 v d p) : ∃ C : Cfg, v = .agg C.cells := by
  obtain ⟨cs, rfl, hsz⟩ := okWide_struct Try.underlying23 hv
  obtain ⟨c0, c1, c2, c3, c4, c5, c6, rfl⟩ := array7C (hsz.trans (by kernel_rfl))
  obtain ⟨fuel, hf⟩ := h
  obtain ⟨xs, n, _, _, hl, hlen, hfs⟩ := DataW.trod_struct Try.underlying23 hf
  match xs, hlen with
  | [y0, y1, y2, y3, y4, y5, y6], _ =>
    have h0 := hfs 0 _ rfl
    have h1 := hfs 1 _ rfl
    have h2 := hfs 2 _ rfl
    have h3 := hfs 3 _ rfl
    have h4 := hfs 4 _ rfl
    have h5 := hfs 5 _ rfl
    have h6 := hfs 6 _ rfl
    have e2 : Try.prog.cellsOf 2 = 1 := by kernel_rfl
    simp [Value.cells, e2] at h0 h1 h2 h3 h4 h5 h6
    obtain ⟨z0, f0, _, _⟩ := DataW.trod_int Try.underlying2 h0
    obtain ⟨z1, f1, _, _⟩ := DataW.trod_int Try.underlying2 h1
    obtain ⟨z2, f2, _, _⟩ := DataW.trod_int Try.underlying2 h2
    obtain ⟨z3, f3, _, _⟩ := DataW.trod_int Try.underlying2 h3
    obtain ⟨z4, f4, _, _⟩ := DataW.trod_int Try.underlying2 h4
    obtain ⟨z5, f5, _, _⟩ := DataW.trod_int Try.underlying2 h5
    obtain ⟨z6, f6, _, _⟩ := DataW.trod_int Try.underlying2 h6
    simp at f0 f1 f2 f3 f4 f5 f6
    subst f0 f1 f2 f3 f4 f5 f6
    exact ⟨⟨z0, z1, z2, z3, z4, z5, z6⟩, rfl⟩
theorem open_counts {H : Type} {enc : TypeId × Value → H} {W : World} {b0 : Nat} {held : Bool} {r : Reach} {v : Value} {d : DataW H} {p : List MemPlace}
    (hv : Value.okWide Try.prog W r b0 31 v) (h : DataW.Trod enc Try.prog W 0 (fun _ => true) held 31 v d p) : ∃ N : Cnt, v = .agg N.cells ∧ N.Fit ∧ RdCnt W N := by
  obtain ⟨cs, rfl, hsz⟩ := okWide_struct Try.underlying31 hv
  obtain ⟨c0, c1, c2, rfl⟩ := array3C (hsz.trans (by kernel_rfl))
  obtain ⟨fuel, hf⟩ := h
  obtain ⟨xs, n, _, _, hl, hlen, hfs⟩ := DataW.trod_struct Try.underlying31 hf
  match xs, hlen with
  | [y0, y1, y2], _ =>
    have h0 := hfs 0 _ rfl
    have h1 := hfs 1 _ rfl
    have h2 := hfs 2 _ rfl
    have e2 : Try.prog.cellsOf 2 = 1 := by kernel_rfl
    have e28 : Try.prog.cellsOf 28 = 1 := by kernel_rfl
    have e29 : Try.prog.cellsOf 29 = 1 := by kernel_rfl
    simp [Value.cells, e2, e28, e29] at h0 h1 h2
    obtain ⟨aU, nU, cU, u, rfl, fu, ru⟩ := open_intRowC h0
    obtain ⟨z1, f1, _, _⟩ := DataW.trod_int Try.underlying2 h1
    obtain ⟨aP, nP, cP, pp, rfl, fp, rp⟩ := open_boolRowC h2
    simp at f1
    subst f1
    exact ⟨⟨aU, nU, cU, u, z1, aP, nP, cP, pp⟩, rfl, ⟨fu, fp⟩, ⟨ru, rp⟩⟩
end Go.Proofs.Ytalbkpofiobmiaa
