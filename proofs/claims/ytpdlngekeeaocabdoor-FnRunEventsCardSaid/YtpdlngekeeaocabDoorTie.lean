/-
  DERIVED. GIVEN WITH THE SEED: THE PROGRAM's TIES (one call each: nine closed facts by the kernel) AND EACH ROW's TIE, after the 31st guide's Derived/Test/Toyas{Tie, Card}.lean. No idea stands in it: it is a product of the set-up. Laid BY PROGRAM, IN A SANDBOX (cutbox-door.mjs). By AI agents, Wed Nov 11 2026. No macro, syntax, notation, axiom, sorry.
-/
import Derived.Test.YtpdlngekeeaocabDoorRows
import Derived.LaidByTextLater
import Derived.SevenTiedAt
import Derived.LaidSub
import Derived.LaidOnce
namespace Go.Proofs.YtpdlngekeeaocabDoor
open Go
set_option maxRecDepth 100000
theorem seatTie1 : Tryd.prog.laidByTextLater [("loop.example/transitfares/impl.stateLimits", Rows.laid_loop_example_transitfares_impl_stateLimits), ("loop.example/transitfares/impl.sumSteps", Rows.laid_loop_example_transitfares_impl_sumSteps)] [.data, .data] true :=
  Program.laidByTextLater_by_one 31 8 25 (by kernel_rfl) (by kernel_rfl) (by kernel_rfl) (by kernel_rfl) (by kernel_rfl) (by kernel_rfl) (fun _ _ => by kernel_rfl)
theorem noOwnUnsafe : Tryd.pinned.checked.prog.headLifts.contains "ownunsafe" = false := by kernel_rfl
theorem tie : Tryd.prog.laidByTextLater [("loop.example/transitfares/impl.stateLimits", Rows.laid_loop_example_transitfares_impl_stateLimits), ("loop.example/transitfares/impl.sumSteps", Rows.laid_loop_example_transitfares_impl_sumSteps)] [.data, .data] true :=
  Program.laidByTextLater.sub seatTie1 ["loop.example/transitfares/impl.stateLimits", "loop.example/transitfares/impl.sumSteps"] (by kernel_rfl) (by kernel_rfl)
theorem fnStepSumClose_row_tie : Rows.fnStepSumCloseRow.laidByTextAt .later Tryd.pinned [.data, .data] true :=
  OpenClaim.laidByTextAt_later rfl rfl tie noOwnUnsafe
theorem fnRunEvents_row_tie : Rows.fnRunEventsRow.laidByTextAt .later Tryd.pinned [.data, .data] true :=
  OpenClaim.laidByTextAt_later rfl rfl tie noOwnUnsafe
theorem fnRunEventsTries_row_tie : Rows.fnRunEventsTriesRow.laidByTextAt .later Tryd.pinned [.data, .data] true :=
  OpenClaim.laidByTextAt_later rfl rfl tie noOwnUnsafe
theorem fnRunEventsNone_row_tie : Rows.fnRunEventsNoneRow.laidByTextAt .later Tryd.pinned [.data, .data] true :=
  OpenClaim.laidByTextAt_later rfl rfl tie noOwnUnsafe
theorem fnIsFinal_row_tie : Rows.fnIsFinalRow.laidByTextAt .later Tryd.pinned [.data, .data] true :=
  OpenClaim.laidByTextAt_later rfl rfl tie noOwnUnsafe
theorem fnOwedOfYes_row_tie : Rows.fnOwedOfYesRow.laidByTextAt .later Tryd.pinned [.data, .data] true :=
  OpenClaim.laidByTextAt_later rfl rfl tie noOwnUnsafe
theorem tie2 : Tryd.prog.laidByTextLater [("loop.example/transitfares/impl.stateLimits", Rows.laid_loop_example_transitfares_impl_stateLimits)] [.data] true :=
  Program.laidByTextLater.sub seatTie1 ["loop.example/transitfares/impl.stateLimits"] (by kernel_rfl) (by kernel_rfl)
theorem fnOwedOf_row_tie : Rows.fnOwedOfRow.laidByTextAt .later Tryd.pinned [.data] true :=
  OpenClaim.laidByTextAt_later rfl rfl tie2 noOwnUnsafe
theorem fnStepSumCloseUpto_row_tie : Rows.fnStepSumCloseUptoRow.laidByTextAt .later Tryd.pinned [.data, .data] true :=
  OpenClaim.laidByTextAt_later rfl rfl tie noOwnUnsafe
theorem fnRunEventsUpto_row_tie : Rows.fnRunEventsUptoRow.laidByTextAt .later Tryd.pinned [.data, .data] true :=
  OpenClaim.laidByTextAt_later rfl rfl tie noOwnUnsafe
theorem fnRunEventsTriesUpto_row_tie : Rows.fnRunEventsTriesUptoRow.laidByTextAt .later Tryd.pinned [.data, .data] true :=
  OpenClaim.laidByTextAt_later rfl rfl tie noOwnUnsafe
theorem fnRunEventsNoneUpto_row_tie : Rows.fnRunEventsNoneUptoRow.laidByTextAt .later Tryd.pinned [.data, .data] true :=
  OpenClaim.laidByTextAt_later rfl rfl tie noOwnUnsafe
theorem fnIsFinalUpto_row_tie : Rows.fnIsFinalUptoRow.laidByTextAt .later Tryd.pinned [.data, .data] true :=
  OpenClaim.laidByTextAt_later rfl rfl tie noOwnUnsafe
theorem fnOwedOfUpto_row_tie : Rows.fnOwedOfUptoRow.laidByTextAt .later Tryd.pinned [.data] true :=
  OpenClaim.laidByTextAt_later rfl rfl tie2 noOwnUnsafe
theorem fnOwedOfYesUpto_row_tie : Rows.fnOwedOfYesUptoRow.laidByTextAt .later Tryd.pinned [.data, .data] true :=
  OpenClaim.laidByTextAt_later rfl rfl tie noOwnUnsafe
end Go.Proofs.YtpdlngekeeaocabDoor
