/-
  NARROWER THAN 'FOR EVERY INPUT', by the rows' own cells (each row's printed sentence says how): FnArrived: ifaces, laid.
  DERIVED. THE GIVEN ROWS OF THIS SEAT. 1 by the template 'for every input the law returns true; each argument reads behind the call as it read before'; 0 by the template 'total and deterministic' (their statements: YtjippgbmmlcgoaaGreatDoorTotals.lean).
  GIVEN WITH THE SEED: the statements are not yours to turn. If you find one false, say at which input.
  Laid BY PROGRAM, IN A SANDBOX (cutbox-rows.mjs): the forced cells as the released guide's own fill.sh prints them over the translation 594bce7f45609220… (all of the seat's roots in one cut). By AI agents, Wed Nov 11 2026. No macro, syntax, notation, axiom, sorry.
-/
import Derived.Test.YtjippgbmmlcgoaaGreatDoorChecked
import GoSem.Claim
import GoSem.ClaimJoined
import GoSem.ClaimMapViews
import Derived.JoinedTies
import Derived.KernelRfl
namespace Go.Proofs.YtjippgbmmlcgoaaGreatDoor
/- THE CELL 'sum', in the pinned program and in every row, IS THE sha256 OF THE DUMP (.gsa) THAT YtjippgbmmlcgoaaGreatDoorProg.lean LOADS. Nothing in Lean hashes anything: it is a label: what it is worth is what the hold of that sum in a sandbox is worth. -/
noncomputable def Tryz.pinned : Pinned := { name := "ytjippgbmmlcgoaagreatdoor", sum := "594bce7f4560922049ddeefa3c8f86007dfe0ab7170e6ce397eaac213e8daca8", checked := Tryz.checked }
namespace Rows
def none {H : Type} : Left H := { results := [], args := [] }

/- WHAT THE LISTED PACKAGE-LEVEL VARIABLES READ AS WHEN THE CALL BEGINS. Each datum BY PROGRAM (the guide's laid-datum.mjs) off the statement by which the dump's own 'gosem.cut.vars' lays the variable. In a bare row this is a premise. The card (YtjippgbmmlcgoaaGreatDoorCards.lean) ties it to the program's text. -/
def laid_errors_errorType {H : Type} : DataW H := .iface "internal/reflectlite.rtype" (.agg [.ptr (.lit (.string [101, 114, 114, 111, 114]))])
def laid_loop_example_g00355_impl_errForm {H : Type} : DataW H := .iface "*errors.errorString" (.ptr (.agg [.lit (.string [116, 104, 101, 114, 101, 32, 105, 115, 32, 110, 111, 32, 115, 117, 99, 104, 32, 112, 111, 114, 116, 44, 32, 111, 114, 32, 116, 104, 101, 32, 102, 114, 97, 109, 101, 32, 105, 115, 32, 110, 111, 116, 32, 114, 105, 103, 104, 116])]))
def laid_loop_example_g00355_impl_errDrop {H : Type} : DataW H := .iface "*errors.errorString" (.ptr (.agg [.lit (.string [116, 104, 101, 114, 101, 32, 105, 115, 32, 110, 111, 32, 114, 111, 111, 109, 32, 102, 111, 114, 32, 105, 116])]))
def laid_loop_example_g00355_impl_errLoop {H : Type} : DataW H := .iface "*errors.errorString" (.ptr (.agg [.lit (.string [105, 116, 32, 105, 115, 32, 102, 111, 114, 32, 116, 104, 101, 32, 112, 111, 114, 116, 32, 102, 114, 111, 109, 32, 119, 104, 105, 99, 104, 32, 105, 116, 32, 99, 97, 109, 101])]))

/-- 'laws.FnArrived': WHATEVER THE INPUT: true; the input reads as it did. -/
def fnArrivedSpec : ChangeSpec := { name := "fnArrived", vars := ["loop.example/g00355/impl.errForm", "loop.example/g00355/impl.errLoop", "loop.example/g00355/impl.errDrop"], fn := fun _ => fun
  | [d, g1, g2, g3] => { results := [.lit (.bool true)], args := [d], vars := [g1, g2, g3] }
  | _ => none }
def fnArrivedRow : OpenClaim := { program := "ytjippgbmmlcgoaagreatdoor", sum := "594bce7f4560922049ddeefa3c8f86007dfe0ab7170e6ce397eaac213e8daca8", func := "loop.example/g00355/laws.FnArrived", spec := "fnArrived", inPlace := ["internal/reflectlite.TypeOf", "internal/reflectlite.ValueOf", "(internal/reflectlite.Value).Type", "(internal/reflectlite.Value).IsNil", "(internal/reflectlite.Value).Elem", "(internal/reflectlite.Value).Set"], unfollowed := true, recurses := true, named := ["loop.example/g00355/impl.errForm", "loop.example/g00355/impl.errLoop", "loop.example/g00355/impl.errDrop", "errors.errorType"], ifaces := true, apart := false, laid := [("errors.errorType", laid_errors_errorType), ("loop.example/g00355/impl.errForm", laid_loop_example_g00355_impl_errForm), ("loop.example/g00355/impl.errDrop", laid_loop_example_g00355_impl_errDrop), ("loop.example/g00355/impl.errLoop", laid_loop_example_g00355_impl_errLoop)] }
def FnArrivedSaid : Prop := fnArrivedRow.holds Tryz.pinned (OpenSpec.ofChange fnArrivedSpec)

/-- ITS FALSE NEIGHBOUR: 'it returns false'. Refute it at one input. -/
def fnArrivedWrong : ChangeSpec := { name := "fnArrived", vars := ["loop.example/g00355/impl.errForm", "loop.example/g00355/impl.errLoop", "loop.example/g00355/impl.errDrop"], fn := fun _ => fun
  | [d, g1, g2, g3] => { results := [.lit (.bool false)], args := [d], vars := [g1, g2, g3] }
  | _ => none }
def FnArrivedWrongFalsely : Prop := fnArrivedRow.holds Tryz.pinned (OpenSpec.ofChange fnArrivedWrong)

/- THE SECOND FORM. 'bulk': how many values and letters a reading holds, each counted each time it is reached (what is shared counts as often as it is met; a slice's spare places count too). A statement '..UptoSaid' is the law's where the arguments, and the package variables that the reading takes, are together of bulk at most 1048576: NARROWER than '..Said'. Prove '..Said' where nothing that the law and all that it calls make is longer than what came in: it says more and counts as full. Else prove '..UptoSaid'. A law counts once. -/
mutual
def uptoBulk {H : Type} : DataW H → Nat
  | .lit (.string bytes) => bytes.length + 1
  | .lit _ => 1
  | .nil => 1
  | .ptr d => uptoBulk d + 1
  | .slice elems spare => uptoBulkAll elems + uptoBulkAll spare + 1
  | .agg parts => uptoBulkAll parts + 1
  | .iface _ d => uptoBulk d + 1
  | .map entries => uptoBulkEntries entries + 1
  | .held _ => 1
def uptoBulkAll {H : Type} : List (DataW H) → Nat
  | [] => 0
  | d :: r => uptoBulk d + uptoBulkAll r
def uptoBulkEntries {H : Type} : List (Lit × DataW H) → Nat
  | [] => 0
  | x :: r => uptoBulkEntry x + uptoBulkEntries r
def uptoBulkEntry {H : Type} : Lit × DataW H → Nat
  | (.string bytes, d) => bytes.length + uptoBulk d + 1
  | (_, d) => uptoBulk d + 1
 end
def uptoSmall : (H : Type) → List (DataW H) → Bool := fun _ ds => decide (uptoBulkAll ds ≤ 1048576)
def OpenSpec.upto (s : _root_.Go.ChangeSpec) : _root_.Go.OpenSpec := { _root_.Go.OpenSpec.ofChange s with cond := some uptoSmall }

/-- 'laws.FnArrived', WHERE WHAT IT READS IS OF BULK AT MOST 1048576: true; the input reads as it did. -/
def fnArrivedUptoRow : OpenClaim := { program := "ytjippgbmmlcgoaagreatdoor", sum := "594bce7f4560922049ddeefa3c8f86007dfe0ab7170e6ce397eaac213e8daca8", func := "loop.example/g00355/laws.FnArrived", spec := "fnArrived", inPlace := ["internal/reflectlite.TypeOf", "internal/reflectlite.ValueOf", "(internal/reflectlite.Value).Type", "(internal/reflectlite.Value).IsNil", "(internal/reflectlite.Value).Elem", "(internal/reflectlite.Value).Set"], unfollowed := true, recurses := true, named := ["loop.example/g00355/impl.errForm", "loop.example/g00355/impl.errLoop", "loop.example/g00355/impl.errDrop", "errors.errorType"], ifaces := true, apart := false, laid := [("errors.errorType", laid_errors_errorType), ("loop.example/g00355/impl.errForm", laid_loop_example_g00355_impl_errForm), ("loop.example/g00355/impl.errDrop", laid_loop_example_g00355_impl_errDrop), ("loop.example/g00355/impl.errLoop", laid_loop_example_g00355_impl_errLoop)], narrowed := true }
def FnArrivedUptoSaid : Prop := fnArrivedUptoRow.holds Tryz.pinned (OpenSpec.upto fnArrivedSpec)

end Rows
end Go.Proofs.YtjippgbmmlcgoaaGreatDoor
