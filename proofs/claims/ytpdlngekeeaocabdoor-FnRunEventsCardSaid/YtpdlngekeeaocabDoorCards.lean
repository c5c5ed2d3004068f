/-
  DERIVED. GIVEN WITH THE SEED: THE CARDS: each row of YtpdlngekeeaocabDoorRows.lean that lists a variable, with what it lists TIED to the program's text (the seventh form; the later family's looks); each row that meets fmt, with fmt's text TOLD by the authors' own Lean function (tested against real Go, not proved from fmt's source: count such statements apart). THE CARD IS WHAT COUNTS. Prove the row's statement (the work); the ties are given (YtpdlngekeeaocabDoorTie.lean); close each card by the builder's one call (the guide's Derived/Test/ToyasCard.lean, 'card_holds'). Laid BY PROGRAM, IN A SANDBOX (cutbox-door.mjs). By AI agents, Wed Nov 11 2026. No macro, syntax, notation, axiom, sorry.
-/
import Derived.Test.YtpdlngekeeaocabDoorRows
import GoSem.ClaimSeven
namespace Go.Proofs.YtpdlngekeeaocabDoor
namespace Rows

/-- THE TIED CARD OF 'laws.FnStepSumClose'. -/
def fnStepSumCloseCard : Claim7 := { stood := { row := fnStepSumCloseRow, standIns := [], harness := (true, "dc220b4422bff004fef3b271a030984228afe64fd2f3f865b2a04fd7893f3743"), looks := false }, kinds := [], alts := [], laidByText := true, laidKinds := [.data, .data], laidTests := true, laidLooks := .later }
def FnStepSumCloseCardSaid : Prop := Claim7.holds Tryd.pinned (.plain (OpenSpec.ofChange fnStepSumCloseSpec)) fnStepSumCloseCard

/-- THE TIED CARD OF 'laws.FnRunEvents'. -/
def fnRunEventsCard : Claim7 := { stood := { row := fnRunEventsRow, standIns := [], harness := (true, "dc220b4422bff004fef3b271a030984228afe64fd2f3f865b2a04fd7893f3743"), looks := false }, kinds := [], alts := [], laidByText := true, laidKinds := [.data, .data], laidTests := true, laidLooks := .later }
def FnRunEventsCardSaid : Prop := Claim7.holds Tryd.pinned (.plain (OpenSpec.ofChange fnRunEventsSpec)) fnRunEventsCard

/-- THE TIED CARD OF 'laws.FnRunEventsTries'. -/
def fnRunEventsTriesCard : Claim7 := { stood := { row := fnRunEventsTriesRow, standIns := [], harness := (true, "dc220b4422bff004fef3b271a030984228afe64fd2f3f865b2a04fd7893f3743"), looks := false }, kinds := [], alts := [], laidByText := true, laidKinds := [.data, .data], laidTests := true, laidLooks := .later }
def FnRunEventsTriesCardSaid : Prop := Claim7.holds Tryd.pinned (.plain (OpenSpec.ofChange fnRunEventsTriesSpec)) fnRunEventsTriesCard

/-- THE TIED CARD OF 'laws.FnRunEventsNone'. -/
def fnRunEventsNoneCard : Claim7 := { stood := { row := fnRunEventsNoneRow, standIns := [], harness := (true, "dc220b4422bff004fef3b271a030984228afe64fd2f3f865b2a04fd7893f3743"), looks := false }, kinds := [], alts := [], laidByText := true, laidKinds := [.data, .data], laidTests := true, laidLooks := .later }
def FnRunEventsNoneCardSaid : Prop := Claim7.holds Tryd.pinned (.plain (OpenSpec.ofChange fnRunEventsNoneSpec)) fnRunEventsNoneCard

/-- THE TIED CARD OF 'laws.FnIsFinal'. -/
def fnIsFinalCard : Claim7 := { stood := { row := fnIsFinalRow, standIns := [], harness := (true, "dc220b4422bff004fef3b271a030984228afe64fd2f3f865b2a04fd7893f3743"), looks := false }, kinds := [], alts := [], laidByText := true, laidKinds := [.data, .data], laidTests := true, laidLooks := .later }
def FnIsFinalCardSaid : Prop := Claim7.holds Tryd.pinned (.plain (OpenSpec.ofChange fnIsFinalSpec)) fnIsFinalCard

/-- THE TIED CARD OF 'laws.FnOwedOf'. -/
def fnOwedOfCard : Claim7 := { stood := { row := fnOwedOfRow, standIns := [], harness := (true, "dc220b4422bff004fef3b271a030984228afe64fd2f3f865b2a04fd7893f3743"), looks := false }, kinds := [], alts := [], laidByText := true, laidKinds := [.data], laidTests := true, laidLooks := .later }
def FnOwedOfCardSaid : Prop := Claim7.holds Tryd.pinned (.plain (OpenSpec.ofChange fnOwedOfSpec)) fnOwedOfCard

/-- THE TIED CARD OF 'laws.FnOwedOfYes'. -/
def fnOwedOfYesCard : Claim7 := { stood := { row := fnOwedOfYesRow, standIns := [], harness := (true, "dc220b4422bff004fef3b271a030984228afe64fd2f3f865b2a04fd7893f3743"), looks := false }, kinds := [], alts := [], laidByText := true, laidKinds := [.data, .data], laidTests := true, laidLooks := .later }
def FnOwedOfYesCardSaid : Prop := Claim7.holds Tryd.pinned (.plain (OpenSpec.ofChange fnOwedOfYesSpec)) fnOwedOfYesCard

/-- THE SECOND FORM's CARD OF 'laws.FnStepSumClose'. -/
def fnStepSumCloseUptoCard : Claim7 := { stood := { row := fnStepSumCloseUptoRow, standIns := [], harness := (true, "dc220b4422bff004fef3b271a030984228afe64fd2f3f865b2a04fd7893f3743"), looks := false }, kinds := [], alts := [], laidByText := true, laidKinds := [.data, .data], laidTests := true, laidLooks := .later }
def FnStepSumCloseUptoCardSaid : Prop := Claim7.holds Tryd.pinned (.plain (OpenSpec.upto fnStepSumCloseSpec)) fnStepSumCloseUptoCard

/-- THE SECOND FORM's CARD OF 'laws.FnRunEvents'. -/
def fnRunEventsUptoCard : Claim7 := { stood := { row := fnRunEventsUptoRow, standIns := [], harness := (true, "dc220b4422bff004fef3b271a030984228afe64fd2f3f865b2a04fd7893f3743"), looks := false }, kinds := [], alts := [], laidByText := true, laidKinds := [.data, .data], laidTests := true, laidLooks := .later }
def FnRunEventsUptoCardSaid : Prop := Claim7.holds Tryd.pinned (.plain (OpenSpec.upto fnRunEventsSpec)) fnRunEventsUptoCard

/-- THE SECOND FORM's CARD OF 'laws.FnRunEventsTries'. -/
def fnRunEventsTriesUptoCard : Claim7 := { stood := { row := fnRunEventsTriesUptoRow, standIns := [], harness := (true, "dc220b4422bff004fef3b271a030984228afe64fd2f3f865b2a04fd7893f3743"), looks := false }, kinds := [], alts := [], laidByText := true, laidKinds := [.data, .data], laidTests := true, laidLooks := .later }
def FnRunEventsTriesUptoCardSaid : Prop := Claim7.holds Tryd.pinned (.plain (OpenSpec.upto fnRunEventsTriesSpec)) fnRunEventsTriesUptoCard

/-- THE SECOND FORM's CARD OF 'laws.FnRunEventsNone'. -/
def fnRunEventsNoneUptoCard : Claim7 := { stood := { row := fnRunEventsNoneUptoRow, standIns := [], harness := (true, "dc220b4422bff004fef3b271a030984228afe64fd2f3f865b2a04fd7893f3743"), looks := false }, kinds := [], alts := [], laidByText := true, laidKinds := [.data, .data], laidTests := true, laidLooks := .later }
def FnRunEventsNoneUptoCardSaid : Prop := Claim7.holds Tryd.pinned (.plain (OpenSpec.upto fnRunEventsNoneSpec)) fnRunEventsNoneUptoCard

/-- THE SECOND FORM's CARD OF 'laws.FnIsFinal'. -/
def fnIsFinalUptoCard : Claim7 := { stood := { row := fnIsFinalUptoRow, standIns := [], harness := (true, "dc220b4422bff004fef3b271a030984228afe64fd2f3f865b2a04fd7893f3743"), looks := false }, kinds := [], alts := [], laidByText := true, laidKinds := [.data, .data], laidTests := true, laidLooks := .later }
def FnIsFinalUptoCardSaid : Prop := Claim7.holds Tryd.pinned (.plain (OpenSpec.upto fnIsFinalSpec)) fnIsFinalUptoCard

/-- THE SECOND FORM's CARD OF 'laws.FnOwedOf'. -/
def fnOwedOfUptoCard : Claim7 := { stood := { row := fnOwedOfUptoRow, standIns := [], harness := (true, "dc220b4422bff004fef3b271a030984228afe64fd2f3f865b2a04fd7893f3743"), looks := false }, kinds := [], alts := [], laidByText := true, laidKinds := [.data], laidTests := true, laidLooks := .later }
def FnOwedOfUptoCardSaid : Prop := Claim7.holds Tryd.pinned (.plain (OpenSpec.upto fnOwedOfSpec)) fnOwedOfUptoCard

/-- THE SECOND FORM's CARD OF 'laws.FnOwedOfYes'. -/
def fnOwedOfYesUptoCard : Claim7 := { stood := { row := fnOwedOfYesUptoRow, standIns := [], harness := (true, "dc220b4422bff004fef3b271a030984228afe64fd2f3f865b2a04fd7893f3743"), looks := false }, kinds := [], alts := [], laidByText := true, laidKinds := [.data, .data], laidTests := true, laidLooks := .later }
def FnOwedOfYesUptoCardSaid : Prop := Claim7.holds Tryd.pinned (.plain (OpenSpec.upto fnOwedOfYesSpec)) fnOwedOfYesUptoCard
end Rows
end Go.Proofs.YtpdlngekeeaocabDoor
