/-
  No cell of these rows narrows 'for every input' (looked for: loops, veiled, ifaces, maps, wideKeys, modest, calm, conditions, laid).
  DERIVED. THE GIVEN ROWS OF THIS SEAT. 4 by the template 'for every input the law returns true; each argument reads behind the call as it read before'; 0 by the template 'total and deterministic' (their statements: YtaikjgjdggpnjaaTotals.lean).
  GIVEN WITH THE SEED: the statements are not yours to turn. If you find one false, say at which input.
  Laid BY PROGRAM, IN A SANDBOX (cutbox-rows.mjs): the forced cells as the released guide's own fill.sh prints them over the translation 02486b2cd4b61dc9… (all of the seat's roots in one cut). By AI agents, Wed Nov 11 2026. No macro, syntax, notation, axiom, sorry.
-/
import Derived.Test.YtaikjgjdggpnjaaChecked
import GoSem.Claim
import GoSem.ClaimJoined
import GoSem.ClaimMapViews
import Derived.JoinedTies
import Derived.KernelRfl
namespace Go.Proofs.Ytaikjgjdggpnjaa
/- THE CELL 'sum', in the pinned program and in every row, IS THE sha256 OF THE DUMP (.gsa) THAT YtaikjgjdggpnjaaProg.lean LOADS. Nothing in Lean hashes anything: it is a label: what it is worth is what the hold of that sum in a sandbox is worth. -/
noncomputable def Try.pinned : Pinned := { name := "ytaikjgjdggpnjaa", sum := "02486b2cd4b61dc9d5de47696de882a22dbeafc6d3eb7348472d65dc97eef9c2", checked := Try.checked }
namespace Rows
def none {H : Type} : Left H := { results := [], args := [] }

/-- 'laws.FnExactTableOk': WHATEVER THE INPUT: true; the input reads as it did. -/
def fnExactTableOkSpec : ChangeSpec := { name := "fnExactTableOk", fn := fun _ => fun
  | [d] => { results := [.lit (.bool true)], args := [d] }
  | _ => none }
def fnExactTableOkRow : OpenClaim := { program := "ytaikjgjdggpnjaa", sum := "02486b2cd4b61dc9d5de47696de882a22dbeafc6d3eb7348472d65dc97eef9c2", func := "loop.example/g00355/laws.FnExactTableOk", spec := "fnExactTableOk", apart := false }
def FnExactTableOkSaid : Prop := fnExactTableOkRow.holds Try.pinned (OpenSpec.ofChange fnExactTableOkSpec)

/-- ITS FALSE NEIGHBOUR: 'it returns false'. Refute it at one input. -/
def fnExactTableOkWrong : ChangeSpec := { name := "fnExactTableOk", fn := fun _ => fun
  | [d] => { results := [.lit (.bool false)], args := [d] }
  | _ => none }
def FnExactTableOkWrongFalsely : Prop := fnExactTableOkRow.holds Try.pinned (OpenSpec.ofChange fnExactTableOkWrong)

/-- 'laws.FnExactPortOf': WHATEVER THE INPUT: true; the input reads as it did. -/
def fnExactPortOfSpec : ChangeSpec := { name := "fnExactPortOf", fn := fun _ => fun
  | [d1, d2, d3] => { results := [.lit (.bool true)], args := [d1, d2, d3] }
  | _ => none }
def fnExactPortOfRow : OpenClaim := { program := "ytaikjgjdggpnjaa", sum := "02486b2cd4b61dc9d5de47696de882a22dbeafc6d3eb7348472d65dc97eef9c2", func := "loop.example/g00355/laws.FnExactPortOf", spec := "fnExactPortOf", apart := false }
def FnExactPortOfSaid : Prop := fnExactPortOfRow.holds Try.pinned (OpenSpec.ofChange fnExactPortOfSpec)

/-- ITS FALSE NEIGHBOUR: 'it returns false'. Refute it at one input. -/
def fnExactPortOfWrong : ChangeSpec := { name := "fnExactPortOf", fn := fun _ => fun
  | [d1, d2, d3] => { results := [.lit (.bool false)], args := [d1, d2, d3] }
  | _ => none }
def FnExactPortOfWrongFalsely : Prop := fnExactPortOfRow.holds Try.pinned (OpenSpec.ofChange fnExactPortOfWrong)

/-- 'laws.FnExactAged': WHATEVER THE INPUT: true; the input reads as it did. -/
def fnExactAgedSpec : ChangeSpec := { name := "fnExactAged", fn := fun _ => fun
  | [d1, d2] => { results := [.lit (.bool true)], args := [d1, d2] }
  | _ => none }
def fnExactAgedRow : OpenClaim := { program := "ytaikjgjdggpnjaa", sum := "02486b2cd4b61dc9d5de47696de882a22dbeafc6d3eb7348472d65dc97eef9c2", func := "loop.example/g00355/laws.FnExactAged", spec := "fnExactAged", unfollowed := true, recurses := true, apart := false }
def FnExactAgedSaid : Prop := fnExactAgedRow.holds Try.pinned (OpenSpec.ofChange fnExactAgedSpec)

/-- ITS FALSE NEIGHBOUR: 'it returns false'. Refute it at one input. -/
def fnExactAgedWrong : ChangeSpec := { name := "fnExactAged", fn := fun _ => fun
  | [d1, d2] => { results := [.lit (.bool false)], args := [d1, d2] }
  | _ => none }
def FnExactAgedWrongFalsely : Prop := fnExactAgedRow.holds Try.pinned (OpenSpec.ofChange fnExactAgedWrong)

/-- 'laws.FnExactLearned': WHATEVER THE INPUT: true; the input reads as it did. -/
def fnExactLearnedSpec : ChangeSpec := { name := "fnExactLearned", fn := fun _ => fun
  | [d1, d2, d3, d4] => { results := [.lit (.bool true)], args := [d1, d2, d3, d4] }
  | _ => none }
def fnExactLearnedRow : OpenClaim := { program := "ytaikjgjdggpnjaa", sum := "02486b2cd4b61dc9d5de47696de882a22dbeafc6d3eb7348472d65dc97eef9c2", func := "loop.example/g00355/laws.FnExactLearned", spec := "fnExactLearned", unfollowed := true, recurses := true, apart := false }
def FnExactLearnedSaid : Prop := fnExactLearnedRow.holds Try.pinned (OpenSpec.ofChange fnExactLearnedSpec)

/-- ITS FALSE NEIGHBOUR: 'it returns false'. Refute it at one input. -/
def fnExactLearnedWrong : ChangeSpec := { name := "fnExactLearned", fn := fun _ => fun
  | [d1, d2, d3, d4] => { results := [.lit (.bool false)], args := [d1, d2, d3, d4] }
  | _ => none }
def FnExactLearnedWrongFalsely : Prop := fnExactLearnedRow.holds Try.pinned (OpenSpec.ofChange fnExactLearnedWrong)

/- THE SECOND FORM. 'bulk': how many values and letters a reading holds, each counted each time it is reached (what is shared counts as often as it is met; a slice's spare places count too). A statement '..UptoSaid' is the law's where the arguments, and the package variables that the reading takes, are together of bulk at most 1048576: NARROWER than '..Said'. Prove '..Said' where nothing that the law and all that it calls make is longer than what came in: it says more and counts as full. Else prove '..UptoSaid'. A law counts once. -/
mutual
def uptoBulk {H : Type} : DataW H → Nat
  | .lit (.string bytes) => bytes.length + 1
  | .lit _ => 1
  | .nil => 1
  | .ptr d => uptoBulk d + 1
  | .slice elems spare => uptoBulkAll elems + uptoBulkAll spare + 1
  | .agg parts => uptoBulkAll parts + 1
  | .iface _ d => uptoBulk d + 1
  | .map entries => uptoBulkEntries entries + 1
  | .held _ => 1
def uptoBulkAll {H : Type} : List (DataW H) → Nat
  | [] => 0
  | d :: r => uptoBulk d + uptoBulkAll r
def uptoBulkEntries {H : Type} : List (Lit × DataW H) → Nat
  | [] => 0
  | x :: r => uptoBulkEntry x + uptoBulkEntries r
def uptoBulkEntry {H : Type} : Lit × DataW H → Nat
  | (.string bytes, d) => bytes.length + uptoBulk d + 1
  | (_, d) => uptoBulk d + 1
 end
def uptoSmall : (H : Type) → List (DataW H) → Bool := fun _ ds => decide (uptoBulkAll ds ≤ 1048576)
def OpenSpec.upto (s : _root_.Go.ChangeSpec) : _root_.Go.OpenSpec := { _root_.Go.OpenSpec.ofChange s with cond := some uptoSmall }

/-- 'laws.FnExactTableOk', WHERE WHAT IT READS IS OF BULK AT MOST 1048576: true; the input reads as it did. -/
def fnExactTableOkUptoRow : OpenClaim := { program := "ytaikjgjdggpnjaa", sum := "02486b2cd4b61dc9d5de47696de882a22dbeafc6d3eb7348472d65dc97eef9c2", func := "loop.example/g00355/laws.FnExactTableOk", spec := "fnExactTableOk", apart := false, narrowed := true }
def FnExactTableOkUptoSaid : Prop := fnExactTableOkUptoRow.holds Try.pinned (OpenSpec.upto fnExactTableOkSpec)

/-- 'laws.FnExactPortOf', WHERE WHAT IT READS IS OF BULK AT MOST 1048576: true; the input reads as it did. -/
def fnExactPortOfUptoRow : OpenClaim := { program := "ytaikjgjdggpnjaa", sum := "02486b2cd4b61dc9d5de47696de882a22dbeafc6d3eb7348472d65dc97eef9c2", func := "loop.example/g00355/laws.FnExactPortOf", spec := "fnExactPortOf", apart := false, narrowed := true }
def FnExactPortOfUptoSaid : Prop := fnExactPortOfUptoRow.holds Try.pinned (OpenSpec.upto fnExactPortOfSpec)

/-- 'laws.FnExactAged', WHERE WHAT IT READS IS OF BULK AT MOST 1048576: true; the input reads as it did. -/
def fnExactAgedUptoRow : OpenClaim := { program := "ytaikjgjdggpnjaa", sum := "02486b2cd4b61dc9d5de47696de882a22dbeafc6d3eb7348472d65dc97eef9c2", func := "loop.example/g00355/laws.FnExactAged", spec := "fnExactAged", unfollowed := true, recurses := true, apart := false, narrowed := true }
def FnExactAgedUptoSaid : Prop := fnExactAgedUptoRow.holds Try.pinned (OpenSpec.upto fnExactAgedSpec)

/-- 'laws.FnExactLearned', WHERE WHAT IT READS IS OF BULK AT MOST 1048576: true; the input reads as it did. -/
def fnExactLearnedUptoRow : OpenClaim := { program := "ytaikjgjdggpnjaa", sum := "02486b2cd4b61dc9d5de47696de882a22dbeafc6d3eb7348472d65dc97eef9c2", func := "loop.example/g00355/laws.FnExactLearned", spec := "fnExactLearned", unfollowed := true, recurses := true, apart := false, narrowed := true }
def FnExactLearnedUptoSaid : Prop := fnExactLearnedUptoRow.holds Try.pinned (OpenSpec.upto fnExactLearnedSpec)

end Rows
end Go.Proofs.Ytaikjgjdggpnjaa
