/-
  DERIVED. GIVEN WITH THE SEED: THE CARDS: each row of YtjippgbmmlcgoaaGreatDoorRows.lean that lists a variable, with what it lists TIED to the program's text (the seventh form; the later family's looks); each row that meets fmt, with fmt's text TOLD by the authors' own Lean function (tested against real Go, not proved from fmt's source: count such statements apart). THE CARD IS WHAT COUNTS. Prove the row's statement (the work); the ties are given (YtjippgbmmlcgoaaGreatDoorTie.lean); close each card by the builder's one call (the guide's Derived/Test/ToyasCard.lean, 'card_holds'). Laid BY PROGRAM, IN A SANDBOX (cutbox-door.mjs). By AI agents, Wed Nov 11 2026. No macro, syntax, notation, axiom, sorry.
-/
import Derived.Test.YtjippgbmmlcgoaaGreatDoorRows
import GoSem.ClaimSeven
namespace Go.Proofs.YtjippgbmmlcgoaaGreatDoor
namespace Rows

/-- THE TIED CARD OF 'laws.FnArrived'. -/
def fnArrivedCard : Claim7 := { stood := { row := fnArrivedRow, standIns := [], harness := (true, "214fcce64bb51f405568feaa7db8da8775c4cd49fc43509a498a3ff2d9eb2ab0"), looks := true }, kinds := [], alts := [], laidByText := true, laidKinds := [.handle, .sentinel, .sentinel, .sentinel], laidTests := true, laidLooks := .later }
def FnArrivedCardSaid : Prop := Claim7.holds Tryz.pinned (.plain (OpenSpec.ofChange fnArrivedSpec)) fnArrivedCard

/-- THE SECOND FORM's CARD OF 'laws.FnArrived'. -/
def fnArrivedUptoCard : Claim7 := { stood := { row := fnArrivedUptoRow, standIns := [], harness := (true, "214fcce64bb51f405568feaa7db8da8775c4cd49fc43509a498a3ff2d9eb2ab0"), looks := true }, kinds := [], alts := [], laidByText := true, laidKinds := [.handle, .sentinel, .sentinel, .sentinel], laidTests := true, laidLooks := .later }
def FnArrivedUptoCardSaid : Prop := Claim7.holds Tryz.pinned (.plain (OpenSpec.upto fnArrivedSpec)) fnArrivedUptoCard
end Rows
end Go.Proofs.YtjippgbmmlcgoaaGreatDoor
