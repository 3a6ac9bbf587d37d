/-
  DERIVED. GIVEN WITH THE SEED: THE PROGRAM's TIES (one call each: nine closed facts by the kernel) AND EACH ROW's TIE, after the 31st guide's Derived/Test/Toyas{Tie, Card}.lean. No idea stands in it: it is a product of the set-up. Laid BY PROGRAM, IN A SANDBOX (cutbox-door.mjs). By AI agents, Wed Nov 11 2026. No macro, syntax, notation, axiom, sorry.
-/
import Derived.Test.YtjippgbmmlcgoaaGreatDoorRows
import Derived.LaidByTextLater
import Derived.SevenTiedAt
import Derived.LaidSub
import Derived.LaidOnce
namespace Go.Proofs.YtjippgbmmlcgoaaGreatDoor
open Go
set_option maxRecDepth 100000
theorem seatTie1 : Tryz.prog.laidByTextLater [("errors.errorType", Rows.laid_errors_errorType), ("loop.example/g00355/impl.errForm", Rows.laid_loop_example_g00355_impl_errForm), ("loop.example/g00355/impl.errDrop", Rows.laid_loop_example_g00355_impl_errDrop), ("loop.example/g00355/impl.errLoop", Rows.laid_loop_example_g00355_impl_errLoop)] [.handle, .sentinel, .sentinel, .sentinel] true :=
  Program.laidByTextLater_by_one 73 8 2 (by kernel_rfl) (by kernel_rfl) (by kernel_rfl) (by kernel_rfl) (by kernel_rfl) (by kernel_rfl) (fun _ _ => by kernel_rfl)
theorem noOwnUnsafe : Tryz.pinned.checked.prog.headLifts.contains "ownunsafe" = false := by kernel_rfl
theorem tie : Tryz.prog.laidByTextLater [("errors.errorType", Rows.laid_errors_errorType), ("loop.example/g00355/impl.errForm", Rows.laid_loop_example_g00355_impl_errForm), ("loop.example/g00355/impl.errDrop", Rows.laid_loop_example_g00355_impl_errDrop), ("loop.example/g00355/impl.errLoop", Rows.laid_loop_example_g00355_impl_errLoop)] [.handle, .sentinel, .sentinel, .sentinel] true :=
  Program.laidByTextLater.sub seatTie1 ["errors.errorType", "loop.example/g00355/impl.errForm", "loop.example/g00355/impl.errDrop", "loop.example/g00355/impl.errLoop"] (by kernel_rfl) (by kernel_rfl)
theorem fnArrived_row_tie : Rows.fnArrivedRow.laidByTextAt .later Tryz.pinned [.handle, .sentinel, .sentinel, .sentinel] true :=
  OpenClaim.laidByTextAt_later rfl rfl tie noOwnUnsafe
theorem fnArrivedUpto_row_tie : Rows.fnArrivedUptoRow.laidByTextAt .later Tryz.pinned [.handle, .sentinel, .sentinel, .sentinel] true :=
  OpenClaim.laidByTextAt_later rfl rfl tie noOwnUnsafe
end Go.Proofs.YtjippgbmmlcgoaaGreatDoor
