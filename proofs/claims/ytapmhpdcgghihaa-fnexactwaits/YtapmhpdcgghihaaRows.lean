/-
  No cell of these rows narrows 'for every input' (looked for: loops, veiled, ifaces, maps, wideKeys, modest, calm, conditions, laid).
  DERIVED. THE GIVEN ROWS OF THIS SEAT. 5 by the template 'for every input the law returns true; each argument reads behind the call as it read before'; 0 by the template 'total and deterministic' (their statements: YtapmhpdcgghihaaTotals.lean).
  GIVEN WITH THE SEED: the statements are not yours to turn. If you find one false, say at which input.
  Laid BY PROGRAM, IN A SANDBOX (cutbox-rows.mjs): the forced cells as the released guide's own fill.sh prints them over the translation 55c3c36e7b301869… (all of the seat's roots in one cut). By AI agents, Wed Nov 11 2026. No macro, syntax, notation, axiom, sorry.
-/
import Derived.Test.YtapmhpdcgghihaaChecked
import GoSem.Claim
import GoSem.ClaimJoined
import GoSem.ClaimMapViews
import Derived.JoinedTies
import Derived.KernelRfl
namespace Go.Proofs.Ytapmhpdcgghihaa
/- THE CELL 'sum', in the pinned program and in every row, IS THE sha256 OF THE DUMP (.gsa) THAT YtapmhpdcgghihaaProg.lean LOADS. Nothing in Lean hashes anything: it is a label: what it is worth is what the hold of that sum in a sandbox is worth. -/
noncomputable def Try.pinned : Pinned := { name := "ytapmhpdcgghihaa", sum := "55c3c36e7b301869de8b64e359978f2f101329255e66c72552825341fa578f26", checked := Try.checked }
namespace Rows
def none {H : Type} : Left H := { results := [], args := [] }

/-- 'laws.FnExactRoundOk': WHATEVER THE INPUT: true; the input reads as it did. -/
def fnExactRoundOkSpec : ChangeSpec := { name := "fnExactRoundOk", fn := fun _ => fun
  | [d] => { results := [.lit (.bool true)], args := [d] }
  | _ => none }
def fnExactRoundOkRow : OpenClaim := { program := "ytapmhpdcgghihaa", sum := "55c3c36e7b301869de8b64e359978f2f101329255e66c72552825341fa578f26", func := "loop.example/g00355/laws.FnExactRoundOk", spec := "fnExactRoundOk", unfollowed := true, recurses := true, apart := false }
def FnExactRoundOkSaid : Prop := fnExactRoundOkRow.holds Try.pinned (OpenSpec.ofChange fnExactRoundOkSpec)

/-- ITS FALSE NEIGHBOUR: 'it returns false'. Refute it at one input. -/
def fnExactRoundOkWrong : ChangeSpec := { name := "fnExactRoundOk", fn := fun _ => fun
  | [d] => { results := [.lit (.bool false)], args := [d] }
  | _ => none }
def FnExactRoundOkWrongFalsely : Prop := fnExactRoundOkRow.holds Try.pinned (OpenSpec.ofChange fnExactRoundOkWrong)

/-- 'laws.FnExactRoundNew': WHATEVER THE INPUT: true; the input reads as it did. -/
def fnExactRoundNewSpec : ChangeSpec := { name := "fnExactRoundNew", fn := fun _ => fun
  | [d] => { results := [.lit (.bool true)], args := [d] }
  | _ => none }
def fnExactRoundNewRow : OpenClaim := { program := "ytapmhpdcgghihaa", sum := "55c3c36e7b301869de8b64e359978f2f101329255e66c72552825341fa578f26", func := "loop.example/g00355/laws.FnExactRoundNew", spec := "fnExactRoundNew", unfollowed := true, recurses := true, apart := false }
def FnExactRoundNewSaid : Prop := fnExactRoundNewRow.holds Try.pinned (OpenSpec.ofChange fnExactRoundNewSpec)

/-- ITS FALSE NEIGHBOUR: 'it returns false'. Refute it at one input. -/
def fnExactRoundNewWrong : ChangeSpec := { name := "fnExactRoundNew", fn := fun _ => fun
  | [d] => { results := [.lit (.bool false)], args := [d] }
  | _ => none }
def FnExactRoundNewWrongFalsely : Prop := fnExactRoundNewRow.holds Try.pinned (OpenSpec.ofChange fnExactRoundNewWrong)

/-- 'laws.FnExactWaits': WHATEVER THE INPUT: true; the input reads as it did. -/
def fnExactWaitsSpec : ChangeSpec := { name := "fnExactWaits", fn := fun _ => fun
  | [d1, d2, d3] => { results := [.lit (.bool true)], args := [d1, d2, d3] }
  | _ => none }
def fnExactWaitsRow : OpenClaim := { program := "ytapmhpdcgghihaa", sum := "55c3c36e7b301869de8b64e359978f2f101329255e66c72552825341fa578f26", func := "loop.example/g00355/laws.FnExactWaits", spec := "fnExactWaits", unfollowed := true, recurses := true, apart := false }
def FnExactWaitsSaid : Prop := fnExactWaitsRow.holds Try.pinned (OpenSpec.ofChange fnExactWaitsSpec)

/-- ITS FALSE NEIGHBOUR: 'it returns false'. Refute it at one input. -/
def fnExactWaitsWrong : ChangeSpec := { name := "fnExactWaits", fn := fun _ => fun
  | [d1, d2, d3] => { results := [.lit (.bool false)], args := [d1, d2, d3] }
  | _ => none }
def FnExactWaitsWrongFalsely : Prop := fnExactWaitsRow.holds Try.pinned (OpenSpec.ofChange fnExactWaitsWrong)

/-- 'laws.FnExactPicked': WHATEVER THE INPUT: true; the input reads as it did. -/
def fnExactPickedSpec : ChangeSpec := { name := "fnExactPicked", fn := fun _ => fun
  | [d] => { results := [.lit (.bool true)], args := [d] }
  | _ => none }
def fnExactPickedRow : OpenClaim := { program := "ytapmhpdcgghihaa", sum := "55c3c36e7b301869de8b64e359978f2f101329255e66c72552825341fa578f26", func := "loop.example/g00355/laws.FnExactPicked", spec := "fnExactPicked", unfollowed := true, recurses := true, apart := false }
def FnExactPickedSaid : Prop := fnExactPickedRow.holds Try.pinned (OpenSpec.ofChange fnExactPickedSpec)

/-- ITS FALSE NEIGHBOUR: 'it returns false'. Refute it at one input. -/
def fnExactPickedWrong : ChangeSpec := { name := "fnExactPicked", fn := fun _ => fun
  | [d] => { results := [.lit (.bool false)], args := [d] }
  | _ => none }
def FnExactPickedWrongFalsely : Prop := fnExactPickedRow.holds Try.pinned (OpenSpec.ofChange fnExactPickedWrong)

/-- 'laws.FnExactPickedAll': WHATEVER THE INPUT: true; the input reads as it did. -/
def fnExactPickedAllSpec : ChangeSpec := { name := "fnExactPickedAll", fn := fun _ => fun
  | [d1, d2] => { results := [.lit (.bool true)], args := [d1, d2] }
  | _ => none }
def fnExactPickedAllRow : OpenClaim := { program := "ytapmhpdcgghihaa", sum := "55c3c36e7b301869de8b64e359978f2f101329255e66c72552825341fa578f26", func := "loop.example/g00355/laws.FnExactPickedAll", spec := "fnExactPickedAll", unfollowed := true, recurses := true, apart := false }
def FnExactPickedAllSaid : Prop := fnExactPickedAllRow.holds Try.pinned (OpenSpec.ofChange fnExactPickedAllSpec)

/-- ITS FALSE NEIGHBOUR: 'it returns false'. Refute it at one input. -/
def fnExactPickedAllWrong : ChangeSpec := { name := "fnExactPickedAll", fn := fun _ => fun
  | [d1, d2] => { results := [.lit (.bool false)], args := [d1, d2] }
  | _ => none }
def FnExactPickedAllWrongFalsely : Prop := fnExactPickedAllRow.holds Try.pinned (OpenSpec.ofChange fnExactPickedAllWrong)

/- THE SECOND FORM. 'bulk': how many values and letters a reading holds, each counted each time it is reached (what is shared counts as often as it is met; a slice's spare places count too). A statement '..UptoSaid' is the law's where the arguments, and the package variables that the reading takes, are together of bulk at most 1048576: NARROWER than '..Said'. Prove '..Said' where nothing that the law and all that it calls make is longer than what came in: it says more and counts as full. Else prove '..UptoSaid'. A law counts once. -/
mutual
def uptoBulk {H : Type} : DataW H → Nat
  | .lit (.string bytes) => bytes.length + 1
  | .lit _ => 1
  | .nil => 1
  | .ptr d => uptoBulk d + 1
  | .slice elems spare => uptoBulkAll elems + uptoBulkAll spare + 1
  | .agg parts => uptoBulkAll parts + 1
  | .iface _ d => uptoBulk d + 1
  | .map entries => uptoBulkEntries entries + 1
  | .held _ => 1
def uptoBulkAll {H : Type} : List (DataW H) → Nat
  | [] => 0
  | d :: r => uptoBulk d + uptoBulkAll r
def uptoBulkEntries {H : Type} : List (Lit × DataW H) → Nat
  | [] => 0
  | x :: r => uptoBulkEntry x + uptoBulkEntries r
def uptoBulkEntry {H : Type} : Lit × DataW H → Nat
  | (.string bytes, d) => bytes.length + uptoBulk d + 1
  | (_, d) => uptoBulk d + 1
 end
def uptoSmall : (H : Type) → List (DataW H) → Bool := fun _ ds => decide (uptoBulkAll ds ≤ 1048576)
def OpenSpec.upto (s : _root_.Go.ChangeSpec) : _root_.Go.OpenSpec := { _root_.Go.OpenSpec.ofChange s with cond := some uptoSmall }

/-- 'laws.FnExactRoundOk', WHERE WHAT IT READS IS OF BULK AT MOST 1048576: true; the input reads as it did. -/
def fnExactRoundOkUptoRow : OpenClaim := { program := "ytapmhpdcgghihaa", sum := "55c3c36e7b301869de8b64e359978f2f101329255e66c72552825341fa578f26", func := "loop.example/g00355/laws.FnExactRoundOk", spec := "fnExactRoundOk", unfollowed := true, recurses := true, apart := false, narrowed := true }
def FnExactRoundOkUptoSaid : Prop := fnExactRoundOkUptoRow.holds Try.pinned (OpenSpec.upto fnExactRoundOkSpec)

/-- 'laws.FnExactRoundNew', WHERE WHAT IT READS IS OF BULK AT MOST 1048576: true; the input reads as it did. -/
def fnExactRoundNewUptoRow : OpenClaim := { program := "ytapmhpdcgghihaa", sum := "55c3c36e7b301869de8b64e359978f2f101329255e66c72552825341fa578f26", func := "loop.example/g00355/laws.FnExactRoundNew", spec := "fnExactRoundNew", unfollowed := true, recurses := true, apart := false, narrowed := true }
def FnExactRoundNewUptoSaid : Prop := fnExactRoundNewUptoRow.holds Try.pinned (OpenSpec.upto fnExactRoundNewSpec)

/-- 'laws.FnExactWaits', WHERE WHAT IT READS IS OF BULK AT MOST 1048576: true; the input reads as it did. -/
def fnExactWaitsUptoRow : OpenClaim := { program := "ytapmhpdcgghihaa", sum := "55c3c36e7b301869de8b64e359978f2f101329255e66c72552825341fa578f26", func := "loop.example/g00355/laws.FnExactWaits", spec := "fnExactWaits", unfollowed := true, recurses := true, apart := false, narrowed := true }
def FnExactWaitsUptoSaid : Prop := fnExactWaitsUptoRow.holds Try.pinned (OpenSpec.upto fnExactWaitsSpec)

/-- 'laws.FnExactPicked', WHERE WHAT IT READS IS OF BULK AT MOST 1048576: true; the input reads as it did. -/
def fnExactPickedUptoRow : OpenClaim := { program := "ytapmhpdcgghihaa", sum := "55c3c36e7b301869de8b64e359978f2f101329255e66c72552825341fa578f26", func := "loop.example/g00355/laws.FnExactPicked", spec := "fnExactPicked", unfollowed := true, recurses := true, apart := false, narrowed := true }
def FnExactPickedUptoSaid : Prop := fnExactPickedUptoRow.holds Try.pinned (OpenSpec.upto fnExactPickedSpec)

/-- 'laws.FnExactPickedAll', WHERE WHAT IT READS IS OF BULK AT MOST 1048576: true; the input reads as it did. -/
def fnExactPickedAllUptoRow : OpenClaim := { program := "ytapmhpdcgghihaa", sum := "55c3c36e7b301869de8b64e359978f2f101329255e66c72552825341fa578f26", func := "loop.example/g00355/laws.FnExactPickedAll", spec := "fnExactPickedAll", unfollowed := true, recurses := true, apart := false, narrowed := true }
def FnExactPickedAllUptoSaid : Prop := fnExactPickedAllUptoRow.holds Try.pinned (OpenSpec.upto fnExactPickedAllSpec)

end Rows
end Go.Proofs.Ytapmhpdcgghihaa
