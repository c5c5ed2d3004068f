/-
  NARROWER THAN 'FOR EVERY INPUT', by the rows' own cells (each row's printed sentence says how): FnStepSumClose: laid · FnRunEvents: laid · FnRunEventsTries: laid · FnRunEventsNone: laid · FnIsFinal: laid · FnOwedOf: laid · FnOwedOfYes: laid.
  DERIVED. THE GIVEN ROWS OF THIS SEAT. 7 by the template 'for every input the law returns true; each argument reads behind the call as it read before'; 0 by the template 'total and deterministic' (their statements: YtpdlngekeeaocabDoorTotals.lean).
  GIVEN WITH THE SEED: the statements are not yours to turn. If you find one false, say at which input.
  Laid BY PROGRAM, IN A SANDBOX (cutbox-rows.mjs): the forced cells as the released guide's own fill.sh prints them over the translation 83b86d6b41060f9a… (all of the seat's roots in one cut). By AI agents, Wed Nov 11 2026. No macro, syntax, notation, axiom, sorry.
-/
import Derived.Test.YtpdlngekeeaocabDoorChecked
import GoSem.Claim
import GoSem.ClaimJoined
import GoSem.ClaimMapViews
import Derived.JoinedTies
import Derived.KernelRfl
namespace Go.Proofs.YtpdlngekeeaocabDoor
/- THE CELL 'sum', in the pinned program and in every row, IS THE sha256 OF THE DUMP (.gsa) THAT YtpdlngekeeaocabDoorProg.lean LOADS. Nothing in Lean hashes anything: it is a label: what it is worth is what the hold of that sum in a sandbox is worth. -/
noncomputable def Tryd.pinned : Pinned := { name := "ytpdlngekeeaocabdoor", sum := "83b86d6b41060f9ac74e39a045309fcb7642139ca9bc625ba0fc5e5759287472", checked := Tryd.checked }
namespace Rows
def none {H : Type} : Left H := { results := [], args := [] }

/- WHAT THE LISTED PACKAGE-LEVEL VARIABLES READ AS WHEN THE CALL BEGINS. Each datum BY PROGRAM (the guide's laid-datum.mjs) off the statement by which the dump's own 'gosem.cut.vars' lays the variable. In a bare row this is a premise. The card (YtpdlngekeeaocabDoorCards.lean) ties it to the program's text. -/
def laid_loop_example_transitfares_impl_stateLimits {H : Type} : DataW H := .agg [.agg [.lit (.int .i64 0), .lit (.int .i64 100000), .lit (.int .i64 0), .lit (.int .i64 0)], .agg [.lit (.int .i64 1), .lit (.int .i64 100000), .lit (.int .i64 0), .lit (.int .i64 3)], .agg [.lit (.int .i64 1), .lit (.int .i64 100000), .lit (.int .i64 1), .lit (.int .i64 4)], .agg [.lit (.int .i64 1), .lit (.int .i64 100000), .lit (.int .i64 1), .lit (.int .i64 4)], .agg [.lit (.int .i64 0), .lit (.int .i64 0), .lit (.int .i64 0), .lit (.int .i64 0)], .agg [.lit (.int .i64 1), .lit (.int .i64 100000), .lit (.int .i64 4), .lit (.int .i64 4)]]
def laid_loop_example_transitfares_impl_sumSteps {H : Type} : DataW H := .agg [.agg [.lit (.int .i64 0), .lit (.int .i64 1), .lit (.int .i64 0), .lit (.int .i64 0)], .agg [.lit (.int .i64 0), .lit (.int .i64 2), .lit (.int .i64 1), .lit (.int .i64 0)], .agg [.lit (.int .i64 1), .lit (.int .i64 3), .lit (.int .i64 2), .lit (.int .i64 1)], .agg [.lit (.int .i64 2), .lit (.int .i64 4), .lit (.int .i64 3), .lit (.int .i64 0)], .agg [.lit (.int .i64 2), .lit (.int .i64 5), .lit (.int .i64 1), .lit (.int .i64 0)], .agg [.lit (.int .i64 2), .lit (.int .i64 6), .lit (.int .i64 1), .lit (.int .i64 0)]]

/-- 'laws.FnStepSumClose': WHATEVER THE INPUT: true; the input reads as it did. -/
def fnStepSumCloseSpec : ChangeSpec := { name := "fnStepSumClose", vars := ["loop.example/transitfares/impl.sumSteps", "loop.example/transitfares/impl.stateLimits"], fn := fun _ => fun
  | [d, g1, g2] => { results := [.lit (.bool true)], args := [d], vars := [g1, g2] }
  | _ => none }
def fnStepSumCloseRow : OpenClaim := { program := "ytpdlngekeeaocabdoor", sum := "83b86d6b41060f9ac74e39a045309fcb7642139ca9bc625ba0fc5e5759287472", func := "loop.example/transitfares/laws.FnStepSumClose", spec := "fnStepSumClose", named := ["loop.example/transitfares/impl.sumSteps", "loop.example/transitfares/impl.stateLimits"], apart := false, laid := [("loop.example/transitfares/impl.stateLimits", laid_loop_example_transitfares_impl_stateLimits), ("loop.example/transitfares/impl.sumSteps", laid_loop_example_transitfares_impl_sumSteps)] }
def FnStepSumCloseSaid : Prop := fnStepSumCloseRow.holds Tryd.pinned (OpenSpec.ofChange fnStepSumCloseSpec)

/-- ITS FALSE NEIGHBOUR: 'it returns false'. Refute it at one input. -/
def fnStepSumCloseWrong : ChangeSpec := { name := "fnStepSumClose", vars := ["loop.example/transitfares/impl.sumSteps", "loop.example/transitfares/impl.stateLimits"], fn := fun _ => fun
  | [d, g1, g2] => { results := [.lit (.bool false)], args := [d], vars := [g1, g2] }
  | _ => none }
def FnStepSumCloseWrongFalsely : Prop := fnStepSumCloseRow.holds Tryd.pinned (OpenSpec.ofChange fnStepSumCloseWrong)

/-- 'laws.FnRunEvents': WHATEVER THE INPUT: true; the input reads as it did. -/
def fnRunEventsSpec : ChangeSpec := { name := "fnRunEvents", vars := ["loop.example/transitfares/impl.stateLimits", "loop.example/transitfares/impl.sumSteps"], fn := fun _ => fun
  | [d, g1, g2] => { results := [.lit (.bool true)], args := [d], vars := [g1, g2] }
  | _ => none }
def fnRunEventsRow : OpenClaim := { program := "ytpdlngekeeaocabdoor", sum := "83b86d6b41060f9ac74e39a045309fcb7642139ca9bc625ba0fc5e5759287472", func := "loop.example/transitfares/laws.FnRunEvents", spec := "fnRunEvents", named := ["loop.example/transitfares/impl.stateLimits", "loop.example/transitfares/impl.sumSteps"], apart := false, laid := [("loop.example/transitfares/impl.stateLimits", laid_loop_example_transitfares_impl_stateLimits), ("loop.example/transitfares/impl.sumSteps", laid_loop_example_transitfares_impl_sumSteps)] }
def FnRunEventsSaid : Prop := fnRunEventsRow.holds Tryd.pinned (OpenSpec.ofChange fnRunEventsSpec)

/-- ITS FALSE NEIGHBOUR: 'it returns false'. Refute it at one input. -/
def fnRunEventsWrong : ChangeSpec := { name := "fnRunEvents", vars := ["loop.example/transitfares/impl.stateLimits", "loop.example/transitfares/impl.sumSteps"], fn := fun _ => fun
  | [d, g1, g2] => { results := [.lit (.bool false)], args := [d], vars := [g1, g2] }
  | _ => none }
def FnRunEventsWrongFalsely : Prop := fnRunEventsRow.holds Tryd.pinned (OpenSpec.ofChange fnRunEventsWrong)

/-- 'laws.FnRunEventsTries': WHATEVER THE INPUT: true; the input reads as it did. -/
def fnRunEventsTriesSpec : ChangeSpec := { name := "fnRunEventsTries", vars := ["loop.example/transitfares/impl.stateLimits", "loop.example/transitfares/impl.sumSteps"], fn := fun _ => fun
  | [d, g1, g2] => { results := [.lit (.bool true)], args := [d], vars := [g1, g2] }
  | _ => none }
def fnRunEventsTriesRow : OpenClaim := { program := "ytpdlngekeeaocabdoor", sum := "83b86d6b41060f9ac74e39a045309fcb7642139ca9bc625ba0fc5e5759287472", func := "loop.example/transitfares/laws.FnRunEventsTries", spec := "fnRunEventsTries", named := ["loop.example/transitfares/impl.stateLimits", "loop.example/transitfares/impl.sumSteps"], apart := false, laid := [("loop.example/transitfares/impl.stateLimits", laid_loop_example_transitfares_impl_stateLimits), ("loop.example/transitfares/impl.sumSteps", laid_loop_example_transitfares_impl_sumSteps)] }
def FnRunEventsTriesSaid : Prop := fnRunEventsTriesRow.holds Tryd.pinned (OpenSpec.ofChange fnRunEventsTriesSpec)

/-- ITS FALSE NEIGHBOUR: 'it returns false'. Refute it at one input. -/
def fnRunEventsTriesWrong : ChangeSpec := { name := "fnRunEventsTries", vars := ["loop.example/transitfares/impl.stateLimits", "loop.example/transitfares/impl.sumSteps"], fn := fun _ => fun
  | [d, g1, g2] => { results := [.lit (.bool false)], args := [d], vars := [g1, g2] }
  | _ => none }
def FnRunEventsTriesWrongFalsely : Prop := fnRunEventsTriesRow.holds Tryd.pinned (OpenSpec.ofChange fnRunEventsTriesWrong)

/-- 'laws.FnRunEventsNone': WHATEVER THE INPUT: true; the input reads as it did. -/
def fnRunEventsNoneSpec : ChangeSpec := { name := "fnRunEventsNone", vars := ["loop.example/transitfares/impl.stateLimits", "loop.example/transitfares/impl.sumSteps"], fn := fun _ => fun
  | [d, g1, g2] => { results := [.lit (.bool true)], args := [d], vars := [g1, g2] }
  | _ => none }
def fnRunEventsNoneRow : OpenClaim := { program := "ytpdlngekeeaocabdoor", sum := "83b86d6b41060f9ac74e39a045309fcb7642139ca9bc625ba0fc5e5759287472", func := "loop.example/transitfares/laws.FnRunEventsNone", spec := "fnRunEventsNone", named := ["loop.example/transitfares/impl.stateLimits", "loop.example/transitfares/impl.sumSteps"], apart := false, laid := [("loop.example/transitfares/impl.stateLimits", laid_loop_example_transitfares_impl_stateLimits), ("loop.example/transitfares/impl.sumSteps", laid_loop_example_transitfares_impl_sumSteps)] }
def FnRunEventsNoneSaid : Prop := fnRunEventsNoneRow.holds Tryd.pinned (OpenSpec.ofChange fnRunEventsNoneSpec)

/-- ITS FALSE NEIGHBOUR: 'it returns false'. Refute it at one input. -/
def fnRunEventsNoneWrong : ChangeSpec := { name := "fnRunEventsNone", vars := ["loop.example/transitfares/impl.stateLimits", "loop.example/transitfares/impl.sumSteps"], fn := fun _ => fun
  | [d, g1, g2] => { results := [.lit (.bool false)], args := [d], vars := [g1, g2] }
  | _ => none }
def FnRunEventsNoneWrongFalsely : Prop := fnRunEventsNoneRow.holds Tryd.pinned (OpenSpec.ofChange fnRunEventsNoneWrong)

/-- 'laws.FnIsFinal': WHATEVER THE INPUT: true; the input reads as it did. -/
def fnIsFinalSpec : ChangeSpec := { name := "fnIsFinal", vars := ["loop.example/transitfares/impl.sumSteps", "loop.example/transitfares/impl.stateLimits"], fn := fun _ => fun
  | [d, g1, g2] => { results := [.lit (.bool true)], args := [d], vars := [g1, g2] }
  | _ => none }
def fnIsFinalRow : OpenClaim := { program := "ytpdlngekeeaocabdoor", sum := "83b86d6b41060f9ac74e39a045309fcb7642139ca9bc625ba0fc5e5759287472", func := "loop.example/transitfares/laws.FnIsFinal", spec := "fnIsFinal", named := ["loop.example/transitfares/impl.sumSteps", "loop.example/transitfares/impl.stateLimits"], apart := false, laid := [("loop.example/transitfares/impl.stateLimits", laid_loop_example_transitfares_impl_stateLimits), ("loop.example/transitfares/impl.sumSteps", laid_loop_example_transitfares_impl_sumSteps)] }
def FnIsFinalSaid : Prop := fnIsFinalRow.holds Tryd.pinned (OpenSpec.ofChange fnIsFinalSpec)

/-- ITS FALSE NEIGHBOUR: 'it returns false'. Refute it at one input. -/
def fnIsFinalWrong : ChangeSpec := { name := "fnIsFinal", vars := ["loop.example/transitfares/impl.sumSteps", "loop.example/transitfares/impl.stateLimits"], fn := fun _ => fun
  | [d, g1, g2] => { results := [.lit (.bool false)], args := [d], vars := [g1, g2] }
  | _ => none }
def FnIsFinalWrongFalsely : Prop := fnIsFinalRow.holds Tryd.pinned (OpenSpec.ofChange fnIsFinalWrong)

/-- 'laws.FnOwedOf': WHATEVER THE INPUT: true; the input reads as it did. -/
def fnOwedOfSpec : ChangeSpec := { name := "fnOwedOf", vars := ["loop.example/transitfares/impl.stateLimits"], fn := fun _ => fun
  | [d, g1] => { results := [.lit (.bool true)], args := [d], vars := [g1] }
  | _ => none }
def fnOwedOfRow : OpenClaim := { program := "ytpdlngekeeaocabdoor", sum := "83b86d6b41060f9ac74e39a045309fcb7642139ca9bc625ba0fc5e5759287472", func := "loop.example/transitfares/laws.FnOwedOf", spec := "fnOwedOf", named := ["loop.example/transitfares/impl.stateLimits"], apart := false, laid := [("loop.example/transitfares/impl.stateLimits", laid_loop_example_transitfares_impl_stateLimits)] }
def FnOwedOfSaid : Prop := fnOwedOfRow.holds Tryd.pinned (OpenSpec.ofChange fnOwedOfSpec)

/-- ITS FALSE NEIGHBOUR: 'it returns false'. Refute it at one input. -/
def fnOwedOfWrong : ChangeSpec := { name := "fnOwedOf", vars := ["loop.example/transitfares/impl.stateLimits"], fn := fun _ => fun
  | [d, g1] => { results := [.lit (.bool false)], args := [d], vars := [g1] }
  | _ => none }
def FnOwedOfWrongFalsely : Prop := fnOwedOfRow.holds Tryd.pinned (OpenSpec.ofChange fnOwedOfWrong)

/-- 'laws.FnOwedOfYes': WHATEVER THE INPUT: true; the input reads as it did. -/
def fnOwedOfYesSpec : ChangeSpec := { name := "fnOwedOfYes", vars := ["loop.example/transitfares/impl.sumSteps", "loop.example/transitfares/impl.stateLimits"], fn := fun _ => fun
  | [d, g1, g2] => { results := [.lit (.bool true)], args := [d], vars := [g1, g2] }
  | _ => none }
def fnOwedOfYesRow : OpenClaim := { program := "ytpdlngekeeaocabdoor", sum := "83b86d6b41060f9ac74e39a045309fcb7642139ca9bc625ba0fc5e5759287472", func := "loop.example/transitfares/laws.FnOwedOfYes", spec := "fnOwedOfYes", named := ["loop.example/transitfares/impl.sumSteps", "loop.example/transitfares/impl.stateLimits"], apart := false, laid := [("loop.example/transitfares/impl.stateLimits", laid_loop_example_transitfares_impl_stateLimits), ("loop.example/transitfares/impl.sumSteps", laid_loop_example_transitfares_impl_sumSteps)] }
def FnOwedOfYesSaid : Prop := fnOwedOfYesRow.holds Tryd.pinned (OpenSpec.ofChange fnOwedOfYesSpec)

/-- ITS FALSE NEIGHBOUR: 'it returns false'. Refute it at one input. -/
def fnOwedOfYesWrong : ChangeSpec := { name := "fnOwedOfYes", vars := ["loop.example/transitfares/impl.sumSteps", "loop.example/transitfares/impl.stateLimits"], fn := fun _ => fun
  | [d, g1, g2] => { results := [.lit (.bool false)], args := [d], vars := [g1, g2] }
  | _ => none }
def FnOwedOfYesWrongFalsely : Prop := fnOwedOfYesRow.holds Tryd.pinned (OpenSpec.ofChange fnOwedOfYesWrong)

/- THE SECOND FORM. 'bulk': how many values and letters a reading holds, each counted each time it is reached (what is shared counts as often as it is met; a slice's spare places count too). A statement '..UptoSaid' is the law's where the arguments, and the package variables that the reading takes, are together of bulk at most 1048576: NARROWER than '..Said'. Prove '..Said' where nothing that the law and all that it calls make is longer than what came in: it says more and counts as full. Else prove '..UptoSaid'. A law counts once. -/
mutual
def uptoBulk {H : Type} : DataW H → Nat
  | .lit (.string bytes) => bytes.length + 1
  | .lit _ => 1
  | .nil => 1
  | .ptr d => uptoBulk d + 1
  | .slice elems spare => uptoBulkAll elems + uptoBulkAll spare + 1
  | .agg parts => uptoBulkAll parts + 1
  | .iface _ d => uptoBulk d + 1
  | .map entries => uptoBulkEntries entries + 1
  | .held _ => 1
def uptoBulkAll {H : Type} : List (DataW H) → Nat
  | [] => 0
  | d :: r => uptoBulk d + uptoBulkAll r
def uptoBulkEntries {H : Type} : List (Lit × DataW H) → Nat
  | [] => 0
  | x :: r => uptoBulkEntry x + uptoBulkEntries r
def uptoBulkEntry {H : Type} : Lit × DataW H → Nat
  | (.string bytes, d) => bytes.length + uptoBulk d + 1
  | (_, d) => uptoBulk d + 1
 end
def uptoSmall : (H : Type) → List (DataW H) → Bool := fun _ ds => decide (uptoBulkAll ds ≤ 1048576)
def OpenSpec.upto (s : _root_.Go.ChangeSpec) : _root_.Go.OpenSpec := { _root_.Go.OpenSpec.ofChange s with cond := some uptoSmall }

/-- 'laws.FnStepSumClose', WHERE WHAT IT READS IS OF BULK AT MOST 1048576: true; the input reads as it did. -/
def fnStepSumCloseUptoRow : OpenClaim := { program := "ytpdlngekeeaocabdoor", sum := "83b86d6b41060f9ac74e39a045309fcb7642139ca9bc625ba0fc5e5759287472", func := "loop.example/transitfares/laws.FnStepSumClose", spec := "fnStepSumClose", named := ["loop.example/transitfares/impl.sumSteps", "loop.example/transitfares/impl.stateLimits"], apart := false, laid := [("loop.example/transitfares/impl.stateLimits", laid_loop_example_transitfares_impl_stateLimits), ("loop.example/transitfares/impl.sumSteps", laid_loop_example_transitfares_impl_sumSteps)], narrowed := true }
def FnStepSumCloseUptoSaid : Prop := fnStepSumCloseUptoRow.holds Tryd.pinned (OpenSpec.upto fnStepSumCloseSpec)

/-- 'laws.FnRunEvents', WHERE WHAT IT READS IS OF BULK AT MOST 1048576: true; the input reads as it did. -/
def fnRunEventsUptoRow : OpenClaim := { program := "ytpdlngekeeaocabdoor", sum := "83b86d6b41060f9ac74e39a045309fcb7642139ca9bc625ba0fc5e5759287472", func := "loop.example/transitfares/laws.FnRunEvents", spec := "fnRunEvents", named := ["loop.example/transitfares/impl.stateLimits", "loop.example/transitfares/impl.sumSteps"], apart := false, laid := [("loop.example/transitfares/impl.stateLimits", laid_loop_example_transitfares_impl_stateLimits), ("loop.example/transitfares/impl.sumSteps", laid_loop_example_transitfares_impl_sumSteps)], narrowed := true }
def FnRunEventsUptoSaid : Prop := fnRunEventsUptoRow.holds Tryd.pinned (OpenSpec.upto fnRunEventsSpec)

/-- 'laws.FnRunEventsTries', WHERE WHAT IT READS IS OF BULK AT MOST 1048576: true; the input reads as it did. -/
def fnRunEventsTriesUptoRow : OpenClaim := { program := "ytpdlngekeeaocabdoor", sum := "83b86d6b41060f9ac74e39a045309fcb7642139ca9bc625ba0fc5e5759287472", func := "loop.example/transitfares/laws.FnRunEventsTries", spec := "fnRunEventsTries", named := ["loop.example/transitfares/impl.stateLimits", "loop.example/transitfares/impl.sumSteps"], apart := false, laid := [("loop.example/transitfares/impl.stateLimits", laid_loop_example_transitfares_impl_stateLimits), ("loop.example/transitfares/impl.sumSteps", laid_loop_example_transitfares_impl_sumSteps)], narrowed := true }
def FnRunEventsTriesUptoSaid : Prop := fnRunEventsTriesUptoRow.holds Tryd.pinned (OpenSpec.upto fnRunEventsTriesSpec)

/-- 'laws.FnRunEventsNone', WHERE WHAT IT READS IS OF BULK AT MOST 1048576: true; the input reads as it did. -/
def fnRunEventsNoneUptoRow : OpenClaim := { program := "ytpdlngekeeaocabdoor", sum := "83b86d6b41060f9ac74e39a045309fcb7642139ca9bc625ba0fc5e5759287472", func := "loop.example/transitfares/laws.FnRunEventsNone", spec := "fnRunEventsNone", named := ["loop.example/transitfares/impl.stateLimits", "loop.example/transitfares/impl.sumSteps"], apart := false, laid := [("loop.example/transitfares/impl.stateLimits", laid_loop_example_transitfares_impl_stateLimits), ("loop.example/transitfares/impl.sumSteps", laid_loop_example_transitfares_impl_sumSteps)], narrowed := true }
def FnRunEventsNoneUptoSaid : Prop := fnRunEventsNoneUptoRow.holds Tryd.pinned (OpenSpec.upto fnRunEventsNoneSpec)

/-- 'laws.FnIsFinal', WHERE WHAT IT READS IS OF BULK AT MOST 1048576: true; the input reads as it did. -/
def fnIsFinalUptoRow : OpenClaim := { program := "ytpdlngekeeaocabdoor", sum := "83b86d6b41060f9ac74e39a045309fcb7642139ca9bc625ba0fc5e5759287472", func := "loop.example/transitfares/laws.FnIsFinal", spec := "fnIsFinal", named := ["loop.example/transitfares/impl.sumSteps", "loop.example/transitfares/impl.stateLimits"], apart := false, laid := [("loop.example/transitfares/impl.stateLimits", laid_loop_example_transitfares_impl_stateLimits), ("loop.example/transitfares/impl.sumSteps", laid_loop_example_transitfares_impl_sumSteps)], narrowed := true }
def FnIsFinalUptoSaid : Prop := fnIsFinalUptoRow.holds Tryd.pinned (OpenSpec.upto fnIsFinalSpec)

/-- 'laws.FnOwedOf', WHERE WHAT IT READS IS OF BULK AT MOST 1048576: true; the input reads as it did. -/
def fnOwedOfUptoRow : OpenClaim := { program := "ytpdlngekeeaocabdoor", sum := "83b86d6b41060f9ac74e39a045309fcb7642139ca9bc625ba0fc5e5759287472", func := "loop.example/transitfares/laws.FnOwedOf", spec := "fnOwedOf", named := ["loop.example/transitfares/impl.stateLimits"], apart := false, laid := [("loop.example/transitfares/impl.stateLimits", laid_loop_example_transitfares_impl_stateLimits)], narrowed := true }
def FnOwedOfUptoSaid : Prop := fnOwedOfUptoRow.holds Tryd.pinned (OpenSpec.upto fnOwedOfSpec)

/-- 'laws.FnOwedOfYes', WHERE WHAT IT READS IS OF BULK AT MOST 1048576: true; the input reads as it did. -/
def fnOwedOfYesUptoRow : OpenClaim := { program := "ytpdlngekeeaocabdoor", sum := "83b86d6b41060f9ac74e39a045309fcb7642139ca9bc625ba0fc5e5759287472", func := "loop.example/transitfares/laws.FnOwedOfYes", spec := "fnOwedOfYes", named := ["loop.example/transitfares/impl.sumSteps", "loop.example/transitfares/impl.stateLimits"], apart := false, laid := [("loop.example/transitfares/impl.stateLimits", laid_loop_example_transitfares_impl_stateLimits), ("loop.example/transitfares/impl.sumSteps", laid_loop_example_transitfares_impl_sumSteps)], narrowed := true }
def FnOwedOfYesUptoSaid : Prop := fnOwedOfYesUptoRow.holds Tryd.pinned (OpenSpec.upto fnOwedOfYesSpec)

end Rows
end Go.Proofs.YtpdlngekeeaocabDoor
