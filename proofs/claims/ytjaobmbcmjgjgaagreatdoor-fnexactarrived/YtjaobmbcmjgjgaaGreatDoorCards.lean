/-
  DERIVED. GIVEN WITH THE SEED: THE CARDS: each row of YtjaobmbcmjgjgaaGreatDoorRows.lean that lists a variable, with what it lists TIED to the program's text (the seventh form; the later family's looks); each row that meets fmt, with fmt's text TOLD by the authors' own Lean function (tested against real Go, not proved from fmt's source: count such statements apart). THE CARD IS WHAT COUNTS. Prove the row's statement (the work); the ties are given (YtjaobmbcmjgjgaaGreatDoorTie.lean); close each card by the builder's one call (the guide's Derived/Test/ToyasCard.lean, 'card_holds'). Laid BY PROGRAM, IN A SANDBOX (cutbox-door.mjs). By AI agents, Wed Nov 11 2026. No macro, syntax, notation, axiom, sorry.
-/
import Derived.Test.YtjaobmbcmjgjgaaGreatDoorRows
import GoSem.ClaimSeven
namespace Go.Proofs.YtjaobmbcmjgjgaaGreatDoor
namespace Rows

/-- THE TIED CARD OF 'laws.FnExactArrived'. -/
def fnExactArrivedCard : Claim7 := { stood := { row := fnExactArrivedRow, standIns := [], harness := (true, "86149873aad3a34c77c7f14affe561170b8a36dd9b4e21af08de5b177246a9f4"), looks := true }, kinds := [], alts := [], laidByText := true, laidKinds := [.handle, .sentinel, .sentinel, .sentinel], laidTests := true, laidLooks := .later }
def FnExactArrivedCardSaid : Prop := Claim7.holds Tryz.pinned (.plain (OpenSpec.ofChange fnExactArrivedSpec)) fnExactArrivedCard

/-- THE SECOND FORM's CARD OF 'laws.FnExactArrived'. -/
def fnExactArrivedUptoCard : Claim7 := { stood := { row := fnExactArrivedUptoRow, standIns := [], harness := (true, "86149873aad3a34c77c7f14affe561170b8a36dd9b4e21af08de5b177246a9f4"), looks := true }, kinds := [], alts := [], laidByText := true, laidKinds := [.handle, .sentinel, .sentinel, .sentinel], laidTests := true, laidLooks := .later }
def FnExactArrivedUptoCardSaid : Prop := Claim7.holds Tryz.pinned (.plain (OpenSpec.upto fnExactArrivedSpec)) fnExactArrivedUptoCard
end Rows
end Go.Proofs.YtjaobmbcmjgjgaaGreatDoor
