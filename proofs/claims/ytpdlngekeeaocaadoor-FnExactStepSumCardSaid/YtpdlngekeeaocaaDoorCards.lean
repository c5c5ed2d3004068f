/-
  DERIVED. GIVEN WITH THE SEED: THE CARDS: each row of YtpdlngekeeaocaaDoorRows.lean that lists a variable, with what it lists TIED to the program's text (the seventh form; the later family's looks); each row that meets fmt, with fmt's text TOLD by the authors' own Lean function (tested against real Go, not proved from fmt's source: count such statements apart). THE CARD IS WHAT COUNTS. Prove the row's statement (the work); the ties are given (YtpdlngekeeaocaaDoorTie.lean); close each card by the builder's one call (the guide's Derived/Test/ToyasCard.lean, 'card_holds'). Laid BY PROGRAM, IN A SANDBOX (cutbox-door.mjs). By AI agents, Wed Nov 11 2026. No macro, syntax, notation, axiom, sorry.
-/
import Derived.Test.YtpdlngekeeaocaaDoorRows
import GoSem.ClaimSeven
namespace Go.Proofs.YtpdlngekeeaocaaDoor
namespace Rows

/-- THE TIED CARD OF 'laws.FnExactValidSum'. -/
def fnExactValidSumCard : Claim7 := { stood := { row := fnExactValidSumRow, standIns := [], harness := (true, "8aa1baf497778d1e5c99b8dc363ff08c212ee396be8a045b2499294761146c2a"), looks := false }, kinds := [], alts := [], laidByText := true, laidKinds := [.data], laidTests := true, laidLooks := .later }
def FnExactValidSumCardSaid : Prop := Claim7.holds Tryd.pinned (.plain (OpenSpec.ofChange fnExactValidSumSpec)) fnExactValidSumCard

/-- THE TIED CARD OF 'laws.FnExactStepSum'. -/
def fnExactStepSumCard : Claim7 := { stood := { row := fnExactStepSumRow, standIns := [], harness := (true, "8aa1baf497778d1e5c99b8dc363ff08c212ee396be8a045b2499294761146c2a"), looks := false }, kinds := [], alts := [], laidByText := true, laidKinds := [.data, .data], laidTests := true, laidLooks := .later }
def FnExactStepSumCardSaid : Prop := Claim7.holds Tryd.pinned (.plain (OpenSpec.ofChange fnExactStepSumSpec)) fnExactStepSumCard

/-- THE TIED CARD OF 'laws.FnExactRunEvents'. -/
def fnExactRunEventsCard : Claim7 := { stood := { row := fnExactRunEventsRow, standIns := [], harness := (true, "8aa1baf497778d1e5c99b8dc363ff08c212ee396be8a045b2499294761146c2a"), looks := false }, kinds := [], alts := [], laidByText := true, laidKinds := [.data, .data], laidTests := true, laidLooks := .later }
def FnExactRunEventsCardSaid : Prop := Claim7.holds Tryd.pinned (.plain (OpenSpec.ofChange fnExactRunEventsSpec)) fnExactRunEventsCard

/-- THE TIED CARD OF 'laws.FnExactIsFinal'. -/
def fnExactIsFinalCard : Claim7 := { stood := { row := fnExactIsFinalRow, standIns := [], harness := (true, "8aa1baf497778d1e5c99b8dc363ff08c212ee396be8a045b2499294761146c2a"), looks := false }, kinds := [], alts := [], laidByText := true, laidKinds := [.data, .data], laidTests := true, laidLooks := .later }
def FnExactIsFinalCardSaid : Prop := Claim7.holds Tryd.pinned (.plain (OpenSpec.ofChange fnExactIsFinalSpec)) fnExactIsFinalCard

/-- THE TIED CARD OF 'laws.FnExactOwedOf'. -/
def fnExactOwedOfCard : Claim7 := { stood := { row := fnExactOwedOfRow, standIns := [], harness := (true, "8aa1baf497778d1e5c99b8dc363ff08c212ee396be8a045b2499294761146c2a"), looks := false }, kinds := [], alts := [], laidByText := true, laidKinds := [.data], laidTests := true, laidLooks := .later }
def FnExactOwedOfCardSaid : Prop := Claim7.holds Tryd.pinned (.plain (OpenSpec.ofChange fnExactOwedOfSpec)) fnExactOwedOfCard

/-- THE TIED CARD OF 'laws.FnValidSum'. -/
def fnValidSumCard : Claim7 := { stood := { row := fnValidSumRow, standIns := [], harness := (true, "8aa1baf497778d1e5c99b8dc363ff08c212ee396be8a045b2499294761146c2a"), looks := false }, kinds := [], alts := [], laidByText := true, laidKinds := [.data, .data], laidTests := true, laidLooks := .later }
def FnValidSumCardSaid : Prop := Claim7.holds Tryd.pinned (.plain (OpenSpec.ofChange fnValidSumSpec)) fnValidSumCard

/-- THE TIED CARD OF 'laws.FnStepSum'. -/
def fnStepSumCard : Claim7 := { stood := { row := fnStepSumRow, standIns := [], harness := (true, "8aa1baf497778d1e5c99b8dc363ff08c212ee396be8a045b2499294761146c2a"), looks := false }, kinds := [], alts := [], laidByText := true, laidKinds := [.data, .data], laidTests := true, laidLooks := .later }
def FnStepSumCardSaid : Prop := Claim7.holds Tryd.pinned (.plain (OpenSpec.ofChange fnStepSumSpec)) fnStepSumCard

/-- THE TIED CARD OF 'laws.FnStepSumPaid'. -/
def fnStepSumPaidCard : Claim7 := { stood := { row := fnStepSumPaidRow, standIns := [], harness := (true, "8aa1baf497778d1e5c99b8dc363ff08c212ee396be8a045b2499294761146c2a"), looks := false }, kinds := [], alts := [], laidByText := true, laidKinds := [.data, .data], laidTests := true, laidLooks := .later }
def FnStepSumPaidCardSaid : Prop := Claim7.holds Tryd.pinned (.plain (OpenSpec.ofChange fnStepSumPaidSpec)) fnStepSumPaidCard

/-- THE SECOND FORM's CARD OF 'laws.FnExactValidSum'. -/
def fnExactValidSumUptoCard : Claim7 := { stood := { row := fnExactValidSumUptoRow, standIns := [], harness := (true, "8aa1baf497778d1e5c99b8dc363ff08c212ee396be8a045b2499294761146c2a"), looks := false }, kinds := [], alts := [], laidByText := true, laidKinds := [.data], laidTests := true, laidLooks := .later }
def FnExactValidSumUptoCardSaid : Prop := Claim7.holds Tryd.pinned (.plain (OpenSpec.upto fnExactValidSumSpec)) fnExactValidSumUptoCard

/-- THE SECOND FORM's CARD OF 'laws.FnExactStepSum'. -/
def fnExactStepSumUptoCard : Claim7 := { stood := { row := fnExactStepSumUptoRow, standIns := [], harness := (true, "8aa1baf497778d1e5c99b8dc363ff08c212ee396be8a045b2499294761146c2a"), looks := false }, kinds := [], alts := [], laidByText := true, laidKinds := [.data, .data], laidTests := true, laidLooks := .later }
def FnExactStepSumUptoCardSaid : Prop := Claim7.holds Tryd.pinned (.plain (OpenSpec.upto fnExactStepSumSpec)) fnExactStepSumUptoCard

/-- THE SECOND FORM's CARD OF 'laws.FnExactRunEvents'. -/
def fnExactRunEventsUptoCard : Claim7 := { stood := { row := fnExactRunEventsUptoRow, standIns := [], harness := (true, "8aa1baf497778d1e5c99b8dc363ff08c212ee396be8a045b2499294761146c2a"), looks := false }, kinds := [], alts := [], laidByText := true, laidKinds := [.data, .data], laidTests := true, laidLooks := .later }
def FnExactRunEventsUptoCardSaid : Prop := Claim7.holds Tryd.pinned (.plain (OpenSpec.upto fnExactRunEventsSpec)) fnExactRunEventsUptoCard

/-- THE SECOND FORM's CARD OF 'laws.FnExactIsFinal'. -/
def fnExactIsFinalUptoCard : Claim7 := { stood := { row := fnExactIsFinalUptoRow, standIns := [], harness := (true, "8aa1baf497778d1e5c99b8dc363ff08c212ee396be8a045b2499294761146c2a"), looks := false }, kinds := [], alts := [], laidByText := true, laidKinds := [.data, .data], laidTests := true, laidLooks := .later }
def FnExactIsFinalUptoCardSaid : Prop := Claim7.holds Tryd.pinned (.plain (OpenSpec.upto fnExactIsFinalSpec)) fnExactIsFinalUptoCard

/-- THE SECOND FORM's CARD OF 'laws.FnExactOwedOf'. -/
def fnExactOwedOfUptoCard : Claim7 := { stood := { row := fnExactOwedOfUptoRow, standIns := [], harness := (true, "8aa1baf497778d1e5c99b8dc363ff08c212ee396be8a045b2499294761146c2a"), looks := false }, kinds := [], alts := [], laidByText := true, laidKinds := [.data], laidTests := true, laidLooks := .later }
def FnExactOwedOfUptoCardSaid : Prop := Claim7.holds Tryd.pinned (.plain (OpenSpec.upto fnExactOwedOfSpec)) fnExactOwedOfUptoCard

/-- THE SECOND FORM's CARD OF 'laws.FnValidSum'. -/
def fnValidSumUptoCard : Claim7 := { stood := { row := fnValidSumUptoRow, standIns := [], harness := (true, "8aa1baf497778d1e5c99b8dc363ff08c212ee396be8a045b2499294761146c2a"), looks := false }, kinds := [], alts := [], laidByText := true, laidKinds := [.data, .data], laidTests := true, laidLooks := .later }
def FnValidSumUptoCardSaid : Prop := Claim7.holds Tryd.pinned (.plain (OpenSpec.upto fnValidSumSpec)) fnValidSumUptoCard

/-- THE SECOND FORM's CARD OF 'laws.FnStepSum'. -/
def fnStepSumUptoCard : Claim7 := { stood := { row := fnStepSumUptoRow, standIns := [], harness := (true, "8aa1baf497778d1e5c99b8dc363ff08c212ee396be8a045b2499294761146c2a"), looks := false }, kinds := [], alts := [], laidByText := true, laidKinds := [.data, .data], laidTests := true, laidLooks := .later }
def FnStepSumUptoCardSaid : Prop := Claim7.holds Tryd.pinned (.plain (OpenSpec.upto fnStepSumSpec)) fnStepSumUptoCard

/-- THE SECOND FORM's CARD OF 'laws.FnStepSumPaid'. -/
def fnStepSumPaidUptoCard : Claim7 := { stood := { row := fnStepSumPaidUptoRow, standIns := [], harness := (true, "8aa1baf497778d1e5c99b8dc363ff08c212ee396be8a045b2499294761146c2a"), looks := false }, kinds := [], alts := [], laidByText := true, laidKinds := [.data, .data], laidTests := true, laidLooks := .later }
def FnStepSumPaidUptoCardSaid : Prop := Claim7.holds Tryd.pinned (.plain (OpenSpec.upto fnStepSumPaidSpec)) fnStepSumPaidUptoCard
end Rows
end Go.Proofs.YtpdlngekeeaocaaDoor
