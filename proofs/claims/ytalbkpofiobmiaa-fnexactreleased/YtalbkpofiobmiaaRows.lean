/-
  No cell of these rows narrows 'for every input' (looked for: loops, veiled, ifaces, maps, wideKeys, modest, calm, conditions, laid).
  DERIVED. THE GIVEN ROWS OF THIS SEAT. 6 by the template 'for every input the law returns true; each argument reads behind the call as it read before'; 0 by the template 'total and deterministic' (their statements: YtalbkpofiobmiaaTotals.lean).
  GIVEN WITH THE SEED: the statements are not yours to turn. If you find one false, say at which input.
  Laid BY PROGRAM, IN A SANDBOX (cutbox-rows.mjs): the forced cells as the released guide's own fill.sh prints them over the translation ce442c209a440eff… (all of the seat's roots in one cut). By AI agents, Wed Nov 11 2026. No macro, syntax, notation, axiom, sorry.
-/
import Derived.Test.YtalbkpofiobmiaaChecked
import GoSem.Claim
import GoSem.ClaimJoined
import GoSem.ClaimMapViews
import Derived.JoinedTies
import Derived.KernelRfl
namespace Go.Proofs.Ytalbkpofiobmiaa
/- THE CELL 'sum', in the pinned program and in every row, IS THE sha256 OF THE DUMP (.gsa) THAT YtalbkpofiobmiaaProg.lean LOADS. Nothing in Lean hashes anything: it is a label: what it is worth is what the hold of that sum in a sandbox is worth. -/
noncomputable def Try.pinned : Pinned := { name := "ytalbkpofiobmiaa", sum := "ce442c209a440eff2296d7dbdb1929cfb54a3bc528eeaf10d39db4f3cb1c0d47", checked := Try.checked }
namespace Rows
def none {H : Type} : Left H := { results := [], args := [] }

/-- 'laws.FnExactConfigOk': WHATEVER THE INPUT: true; the input reads as it did. -/
def fnExactConfigOkSpec : ChangeSpec := { name := "fnExactConfigOk", fn := fun _ => fun
  | [d] => { results := [.lit (.bool true)], args := [d] }
  | _ => none }
def fnExactConfigOkRow : OpenClaim := { program := "ytalbkpofiobmiaa", sum := "ce442c209a440eff2296d7dbdb1929cfb54a3bc528eeaf10d39db4f3cb1c0d47", func := "loop.example/g00355/laws.FnExactConfigOk", spec := "fnExactConfigOk", unfollowed := true, recurses := true, apart := false }
def FnExactConfigOkSaid : Prop := fnExactConfigOkRow.holds Try.pinned (OpenSpec.ofChange fnExactConfigOkSpec)

/-- ITS FALSE NEIGHBOUR: 'it returns false'. Refute it at one input. -/
def fnExactConfigOkWrong : ChangeSpec := { name := "fnExactConfigOk", fn := fun _ => fun
  | [d] => { results := [.lit (.bool false)], args := [d] }
  | _ => none }
def FnExactConfigOkWrongFalsely : Prop := fnExactConfigOkRow.holds Try.pinned (OpenSpec.ofChange fnExactConfigOkWrong)

/-- 'laws.FnExactCountsOk': WHATEVER THE INPUT: true; the input reads as it did. -/
def fnExactCountsOkSpec : ChangeSpec := { name := "fnExactCountsOk", fn := fun _ => fun
  | [d1, d2] => { results := [.lit (.bool true)], args := [d1, d2] }
  | _ => none }
def fnExactCountsOkRow : OpenClaim := { program := "ytalbkpofiobmiaa", sum := "ce442c209a440eff2296d7dbdb1929cfb54a3bc528eeaf10d39db4f3cb1c0d47", func := "loop.example/g00355/laws.FnExactCountsOk", spec := "fnExactCountsOk", unfollowed := true, recurses := true, apart := false }
def FnExactCountsOkSaid : Prop := fnExactCountsOkRow.holds Try.pinned (OpenSpec.ofChange fnExactCountsOkSpec)

/-- ITS FALSE NEIGHBOUR: 'it returns false'. Refute it at one input. -/
def fnExactCountsOkWrong : ChangeSpec := { name := "fnExactCountsOk", fn := fun _ => fun
  | [d1, d2] => { results := [.lit (.bool false)], args := [d1, d2] }
  | _ => none }
def FnExactCountsOkWrongFalsely : Prop := fnExactCountsOkRow.holds Try.pinned (OpenSpec.ofChange fnExactCountsOkWrong)

/-- 'laws.FnExactCountsNew': WHATEVER THE INPUT: true; the input reads as it did. -/
def fnExactCountsNewSpec : ChangeSpec := { name := "fnExactCountsNew", fn := fun _ => fun
  | [d] => { results := [.lit (.bool true)], args := [d] }
  | _ => none }
def fnExactCountsNewRow : OpenClaim := { program := "ytalbkpofiobmiaa", sum := "ce442c209a440eff2296d7dbdb1929cfb54a3bc528eeaf10d39db4f3cb1c0d47", func := "loop.example/g00355/laws.FnExactCountsNew", spec := "fnExactCountsNew", unfollowed := true, recurses := true, apart := false }
def FnExactCountsNewSaid : Prop := fnExactCountsNewRow.holds Try.pinned (OpenSpec.ofChange fnExactCountsNewSpec)

/-- ITS FALSE NEIGHBOUR: 'it returns false'. Refute it at one input. -/
def fnExactCountsNewWrong : ChangeSpec := { name := "fnExactCountsNew", fn := fun _ => fun
  | [d] => { results := [.lit (.bool false)], args := [d] }
  | _ => none }
def FnExactCountsNewWrongFalsely : Prop := fnExactCountsNewRow.holds Try.pinned (OpenSpec.ofChange fnExactCountsNewWrong)

/-- 'laws.FnExactAdmitted': WHATEVER THE INPUT: true; the input reads as it did. -/
def fnExactAdmittedSpec : ChangeSpec := { name := "fnExactAdmitted", fn := fun _ => fun
  | [d1, d2, d3, d4, d5] => { results := [.lit (.bool true)], args := [d1, d2, d3, d4, d5] }
  | _ => none }
def fnExactAdmittedRow : OpenClaim := { program := "ytalbkpofiobmiaa", sum := "ce442c209a440eff2296d7dbdb1929cfb54a3bc528eeaf10d39db4f3cb1c0d47", func := "loop.example/g00355/laws.FnExactAdmitted", spec := "fnExactAdmitted", unfollowed := true, recurses := true, apart := false }
def FnExactAdmittedSaid : Prop := fnExactAdmittedRow.holds Try.pinned (OpenSpec.ofChange fnExactAdmittedSpec)

/-- ITS FALSE NEIGHBOUR: 'it returns false'. Refute it at one input. -/
def fnExactAdmittedWrong : ChangeSpec := { name := "fnExactAdmitted", fn := fun _ => fun
  | [d1, d2, d3, d4, d5] => { results := [.lit (.bool false)], args := [d1, d2, d3, d4, d5] }
  | _ => none }
def FnExactAdmittedWrongFalsely : Prop := fnExactAdmittedRow.holds Try.pinned (OpenSpec.ofChange fnExactAdmittedWrong)

/-- 'laws.FnExactReleased': WHATEVER THE INPUT: true; the input reads as it did. -/
def fnExactReleasedSpec : ChangeSpec := { name := "fnExactReleased", fn := fun _ => fun
  | [d1, d2, d3, d4, d5] => { results := [.lit (.bool true)], args := [d1, d2, d3, d4, d5] }
  | _ => none }
def fnExactReleasedRow : OpenClaim := { program := "ytalbkpofiobmiaa", sum := "ce442c209a440eff2296d7dbdb1929cfb54a3bc528eeaf10d39db4f3cb1c0d47", func := "loop.example/g00355/laws.FnExactReleased", spec := "fnExactReleased", unfollowed := true, recurses := true, apart := false }
def FnExactReleasedSaid : Prop := fnExactReleasedRow.holds Try.pinned (OpenSpec.ofChange fnExactReleasedSpec)

/-- ITS FALSE NEIGHBOUR: 'it returns false'. Refute it at one input. -/
def fnExactReleasedWrong : ChangeSpec := { name := "fnExactReleased", fn := fun _ => fun
  | [d1, d2, d3, d4, d5] => { results := [.lit (.bool false)], args := [d1, d2, d3, d4, d5] }
  | _ => none }
def FnExactReleasedWrongFalsely : Prop := fnExactReleasedRow.holds Try.pinned (OpenSpec.ofChange fnExactReleasedWrong)

/-- 'laws.FnExactSignals': WHATEVER THE INPUT: true; the input reads as it did. -/
def fnExactSignalsSpec : ChangeSpec := { name := "fnExactSignals", fn := fun _ => fun
  | [d1, d2] => { results := [.lit (.bool true)], args := [d1, d2] }
  | _ => none }
def fnExactSignalsRow : OpenClaim := { program := "ytalbkpofiobmiaa", sum := "ce442c209a440eff2296d7dbdb1929cfb54a3bc528eeaf10d39db4f3cb1c0d47", func := "loop.example/g00355/laws.FnExactSignals", spec := "fnExactSignals", unfollowed := true, recurses := true, apart := false }
def FnExactSignalsSaid : Prop := fnExactSignalsRow.holds Try.pinned (OpenSpec.ofChange fnExactSignalsSpec)

/-- ITS FALSE NEIGHBOUR: 'it returns false'. Refute it at one input. -/
def fnExactSignalsWrong : ChangeSpec := { name := "fnExactSignals", fn := fun _ => fun
  | [d1, d2] => { results := [.lit (.bool false)], args := [d1, d2] }
  | _ => none }
def FnExactSignalsWrongFalsely : Prop := fnExactSignalsRow.holds Try.pinned (OpenSpec.ofChange fnExactSignalsWrong)

/- THE SECOND FORM. 'bulk': how many values and letters a reading holds, each counted each time it is reached (what is shared counts as often as it is met; a slice's spare places count too). A statement '..UptoSaid' is the law's where the arguments, and the package variables that the reading takes, are together of bulk at most 1048576: NARROWER than '..Said'. Prove '..Said' where nothing that the law and all that it calls make is longer than what came in: it says more and counts as full. Else prove '..UptoSaid'. A law counts once. -/
mutual
def uptoBulk {H : Type} : DataW H → Nat
  | .lit (.string bytes) => bytes.length + 1
  | .lit _ => 1
  | .nil => 1
  | .ptr d => uptoBulk d + 1
  | .slice elems spare => uptoBulkAll elems + uptoBulkAll spare + 1
  | .agg parts => uptoBulkAll parts + 1
  | .iface _ d => uptoBulk d + 1
  | .map entries => uptoBulkEntries entries + 1
  | .held _ => 1
def uptoBulkAll {H : Type} : List (DataW H) → Nat
  | [] => 0
  | d :: r => uptoBulk d + uptoBulkAll r
def uptoBulkEntries {H : Type} : List (Lit × DataW H) → Nat
  | [] => 0
  | x :: r => uptoBulkEntry x + uptoBulkEntries r
def uptoBulkEntry {H : Type} : Lit × DataW H → Nat
  | (.string bytes, d) => bytes.length + uptoBulk d + 1
  | (_, d) => uptoBulk d + 1
 end
def uptoSmall : (H : Type) → List (DataW H) → Bool := fun _ ds => decide (uptoBulkAll ds ≤ 1048576)
def OpenSpec.upto (s : _root_.Go.ChangeSpec) : _root_.Go.OpenSpec := { _root_.Go.OpenSpec.ofChange s with cond := some uptoSmall }

/-- 'laws.FnExactConfigOk', WHERE WHAT IT READS IS OF BULK AT MOST 1048576: true; the input reads as it did. -/
def fnExactConfigOkUptoRow : OpenClaim := { program := "ytalbkpofiobmiaa", sum := "ce442c209a440eff2296d7dbdb1929cfb54a3bc528eeaf10d39db4f3cb1c0d47", func := "loop.example/g00355/laws.FnExactConfigOk", spec := "fnExactConfigOk", unfollowed := true, recurses := true, apart := false, narrowed := true }
def FnExactConfigOkUptoSaid : Prop := fnExactConfigOkUptoRow.holds Try.pinned (OpenSpec.upto fnExactConfigOkSpec)

/-- 'laws.FnExactCountsOk', WHERE WHAT IT READS IS OF BULK AT MOST 1048576: true; the input reads as it did. -/
def fnExactCountsOkUptoRow : OpenClaim := { program := "ytalbkpofiobmiaa", sum := "ce442c209a440eff2296d7dbdb1929cfb54a3bc528eeaf10d39db4f3cb1c0d47", func := "loop.example/g00355/laws.FnExactCountsOk", spec := "fnExactCountsOk", unfollowed := true, recurses := true, apart := false, narrowed := true }
def FnExactCountsOkUptoSaid : Prop := fnExactCountsOkUptoRow.holds Try.pinned (OpenSpec.upto fnExactCountsOkSpec)

/-- 'laws.FnExactCountsNew', WHERE WHAT IT READS IS OF BULK AT MOST 1048576: true; the input reads as it did. -/
def fnExactCountsNewUptoRow : OpenClaim := { program := "ytalbkpofiobmiaa", sum := "ce442c209a440eff2296d7dbdb1929cfb54a3bc528eeaf10d39db4f3cb1c0d47", func := "loop.example/g00355/laws.FnExactCountsNew", spec := "fnExactCountsNew", unfollowed := true, recurses := true, apart := false, narrowed := true }
def FnExactCountsNewUptoSaid : Prop := fnExactCountsNewUptoRow.holds Try.pinned (OpenSpec.upto fnExactCountsNewSpec)

/-- 'laws.FnExactAdmitted', WHERE WHAT IT READS IS OF BULK AT MOST 1048576: true; the input reads as it did. -/
def fnExactAdmittedUptoRow : OpenClaim := { program := "ytalbkpofiobmiaa", sum := "ce442c209a440eff2296d7dbdb1929cfb54a3bc528eeaf10d39db4f3cb1c0d47", func := "loop.example/g00355/laws.FnExactAdmitted", spec := "fnExactAdmitted", unfollowed := true, recurses := true, apart := false, narrowed := true }
def FnExactAdmittedUptoSaid : Prop := fnExactAdmittedUptoRow.holds Try.pinned (OpenSpec.upto fnExactAdmittedSpec)

/-- 'laws.FnExactReleased', WHERE WHAT IT READS IS OF BULK AT MOST 1048576: true; the input reads as it did. -/
def fnExactReleasedUptoRow : OpenClaim := { program := "ytalbkpofiobmiaa", sum := "ce442c209a440eff2296d7dbdb1929cfb54a3bc528eeaf10d39db4f3cb1c0d47", func := "loop.example/g00355/laws.FnExactReleased", spec := "fnExactReleased", unfollowed := true, recurses := true, apart := false, narrowed := true }
def FnExactReleasedUptoSaid : Prop := fnExactReleasedUptoRow.holds Try.pinned (OpenSpec.upto fnExactReleasedSpec)

/-- 'laws.FnExactSignals', WHERE WHAT IT READS IS OF BULK AT MOST 1048576: true; the input reads as it did. -/
def fnExactSignalsUptoRow : OpenClaim := { program := "ytalbkpofiobmiaa", sum := "ce442c209a440eff2296d7dbdb1929cfb54a3bc528eeaf10d39db4f3cb1c0d47", func := "loop.example/g00355/laws.FnExactSignals", spec := "fnExactSignals", unfollowed := true, recurses := true, apart := false, narrowed := true }
def FnExactSignalsUptoSaid : Prop := fnExactSignalsUptoRow.holds Try.pinned (OpenSpec.upto fnExactSignalsSpec)

end Rows
end Go.Proofs.Ytalbkpofiobmiaa
