/-
  NARROWER THAN 'FOR EVERY INPUT', by the rows' own cells (each row's printed sentence says how): FnExactValidSum: laid · FnExactStepSum: laid · FnExactRunEvents: laid · FnExactIsFinal: laid · FnExactOwedOf: laid · FnValidSum: laid · FnStepSum: laid · FnStepSumPaid: laid.
  DERIVED. THE GIVEN ROWS OF THIS SEAT. 8 by the template 'for every input the law returns true; each argument reads behind the call as it read before'; 0 by the template 'total and deterministic' (their statements: YtpdlngekeeaocaaDoorTotals.lean).
  GIVEN WITH THE SEED: the statements are not yours to turn. If you find one false, say at which input.
  Laid BY PROGRAM, IN A SANDBOX (cutbox-rows.mjs): the forced cells as the released guide's own fill.sh prints them over the translation 2ff7719c48eea3ab… (all of the seat's roots in one cut). By AI agents, Wed Nov 11 2026. No macro, syntax, notation, axiom, sorry.
-/
import Derived.Test.YtpdlngekeeaocaaDoorChecked
import GoSem.Claim
import GoSem.ClaimJoined
import GoSem.ClaimMapViews
import Derived.JoinedTies
import Derived.KernelRfl
namespace Go.Proofs.YtpdlngekeeaocaaDoor
/- THE CELL 'sum', in the pinned program and in every row, IS THE sha256 OF THE DUMP (.gsa) THAT YtpdlngekeeaocaaDoorProg.lean LOADS. Nothing in Lean hashes anything: it is a label: what it is worth is what the hold of that sum in a sandbox is worth. -/
noncomputable def Tryd.pinned : Pinned := { name := "ytpdlngekeeaocaadoor", sum := "2ff7719c48eea3aba2fc341803c3ba8d8f8eb5ea87d3ff5b619b0fc21136fd81", checked := Tryd.checked }
namespace Rows
def none {H : Type} : Left H := { results := [], args := [] }

/- WHAT THE LISTED PACKAGE-LEVEL VARIABLES READ AS WHEN THE CALL BEGINS. Each datum BY PROGRAM (the guide's laid-datum.mjs) off the statement by which the dump's own 'gosem.cut.vars' lays the variable. In a bare row this is a premise. The card (YtpdlngekeeaocaaDoorCards.lean) ties it to the program's text. -/
def laid_loop_example_transitfares_impl_stateLimits {H : Type} : DataW H := .agg [.agg [.lit (.int .i64 0), .lit (.int .i64 100000), .lit (.int .i64 0), .lit (.int .i64 0)], .agg [.lit (.int .i64 1), .lit (.int .i64 100000), .lit (.int .i64 0), .lit (.int .i64 3)], .agg [.lit (.int .i64 1), .lit (.int .i64 100000), .lit (.int .i64 1), .lit (.int .i64 4)], .agg [.lit (.int .i64 1), .lit (.int .i64 100000), .lit (.int .i64 1), .lit (.int .i64 4)], .agg [.lit (.int .i64 0), .lit (.int .i64 0), .lit (.int .i64 0), .lit (.int .i64 0)], .agg [.lit (.int .i64 1), .lit (.int .i64 100000), .lit (.int .i64 4), .lit (.int .i64 4)]]
def laid_loop_example_transitfares_impl_sumSteps {H : Type} : DataW H := .agg [.agg [.lit (.int .i64 0), .lit (.int .i64 1), .lit (.int .i64 0), .lit (.int .i64 0)], .agg [.lit (.int .i64 0), .lit (.int .i64 2), .lit (.int .i64 1), .lit (.int .i64 0)], .agg [.lit (.int .i64 1), .lit (.int .i64 3), .lit (.int .i64 2), .lit (.int .i64 1)], .agg [.lit (.int .i64 2), .lit (.int .i64 4), .lit (.int .i64 3), .lit (.int .i64 0)], .agg [.lit (.int .i64 2), .lit (.int .i64 5), .lit (.int .i64 1), .lit (.int .i64 0)], .agg [.lit (.int .i64 2), .lit (.int .i64 6), .lit (.int .i64 1), .lit (.int .i64 0)]]

/-- 'laws.FnExactValidSum': WHATEVER THE INPUT: true; the input reads as it did. -/
def fnExactValidSumSpec : ChangeSpec := { name := "fnExactValidSum", vars := ["loop.example/transitfares/impl.stateLimits"], fn := fun _ => fun
  | [d, g1] => { results := [.lit (.bool true)], args := [d], vars := [g1] }
  | _ => none }
def fnExactValidSumRow : OpenClaim := { program := "ytpdlngekeeaocaadoor", sum := "2ff7719c48eea3aba2fc341803c3ba8d8f8eb5ea87d3ff5b619b0fc21136fd81", func := "loop.example/transitfares/laws.FnExactValidSum", spec := "fnExactValidSum", named := ["loop.example/transitfares/impl.stateLimits"], apart := false, laid := [("loop.example/transitfares/impl.stateLimits", laid_loop_example_transitfares_impl_stateLimits)] }
def FnExactValidSumSaid : Prop := fnExactValidSumRow.holds Tryd.pinned (OpenSpec.ofChange fnExactValidSumSpec)

/-- ITS FALSE NEIGHBOUR: 'it returns false'. Refute it at one input. -/
def fnExactValidSumWrong : ChangeSpec := { name := "fnExactValidSum", vars := ["loop.example/transitfares/impl.stateLimits"], fn := fun _ => fun
  | [d, g1] => { results := [.lit (.bool false)], args := [d], vars := [g1] }
  | _ => none }
def FnExactValidSumWrongFalsely : Prop := fnExactValidSumRow.holds Tryd.pinned (OpenSpec.ofChange fnExactValidSumWrong)

/-- 'laws.FnExactStepSum': WHATEVER THE INPUT: true; the input reads as it did. -/
def fnExactStepSumSpec : ChangeSpec := { name := "fnExactStepSum", vars := ["loop.example/transitfares/impl.sumSteps", "loop.example/transitfares/impl.stateLimits"], fn := fun _ => fun
  | [d1, d2, g1, g2] => { results := [.lit (.bool true)], args := [d1, d2], vars := [g1, g2] }
  | _ => none }
def fnExactStepSumRow : OpenClaim := { program := "ytpdlngekeeaocaadoor", sum := "2ff7719c48eea3aba2fc341803c3ba8d8f8eb5ea87d3ff5b619b0fc21136fd81", func := "loop.example/transitfares/laws.FnExactStepSum", spec := "fnExactStepSum", named := ["loop.example/transitfares/impl.sumSteps", "loop.example/transitfares/impl.stateLimits"], apart := false, laid := [("loop.example/transitfares/impl.stateLimits", laid_loop_example_transitfares_impl_stateLimits), ("loop.example/transitfares/impl.sumSteps", laid_loop_example_transitfares_impl_sumSteps)] }
def FnExactStepSumSaid : Prop := fnExactStepSumRow.holds Tryd.pinned (OpenSpec.ofChange fnExactStepSumSpec)

/-- ITS FALSE NEIGHBOUR: 'it returns false'. Refute it at one input. -/
def fnExactStepSumWrong : ChangeSpec := { name := "fnExactStepSum", vars := ["loop.example/transitfares/impl.sumSteps", "loop.example/transitfares/impl.stateLimits"], fn := fun _ => fun
  | [d1, d2, g1, g2] => { results := [.lit (.bool false)], args := [d1, d2], vars := [g1, g2] }
  | _ => none }
def FnExactStepSumWrongFalsely : Prop := fnExactStepSumRow.holds Tryd.pinned (OpenSpec.ofChange fnExactStepSumWrong)

/-- 'laws.FnExactRunEvents': WHATEVER THE INPUT: true; the input reads as it did. -/
def fnExactRunEventsSpec : ChangeSpec := { name := "fnExactRunEvents", vars := ["loop.example/transitfares/impl.stateLimits", "loop.example/transitfares/impl.sumSteps"], fn := fun _ => fun
  | [d1, d2, g1, g2] => { results := [.lit (.bool true)], args := [d1, d2], vars := [g1, g2] }
  | _ => none }
def fnExactRunEventsRow : OpenClaim := { program := "ytpdlngekeeaocaadoor", sum := "2ff7719c48eea3aba2fc341803c3ba8d8f8eb5ea87d3ff5b619b0fc21136fd81", func := "loop.example/transitfares/laws.FnExactRunEvents", spec := "fnExactRunEvents", named := ["loop.example/transitfares/impl.stateLimits", "loop.example/transitfares/impl.sumSteps"], apart := false, laid := [("loop.example/transitfares/impl.stateLimits", laid_loop_example_transitfares_impl_stateLimits), ("loop.example/transitfares/impl.sumSteps", laid_loop_example_transitfares_impl_sumSteps)] }
def FnExactRunEventsSaid : Prop := fnExactRunEventsRow.holds Tryd.pinned (OpenSpec.ofChange fnExactRunEventsSpec)

/-- ITS FALSE NEIGHBOUR: 'it returns false'. Refute it at one input. -/
def fnExactRunEventsWrong : ChangeSpec := { name := "fnExactRunEvents", vars := ["loop.example/transitfares/impl.stateLimits", "loop.example/transitfares/impl.sumSteps"], fn := fun _ => fun
  | [d1, d2, g1, g2] => { results := [.lit (.bool false)], args := [d1, d2], vars := [g1, g2] }
  | _ => none }
def FnExactRunEventsWrongFalsely : Prop := fnExactRunEventsRow.holds Tryd.pinned (OpenSpec.ofChange fnExactRunEventsWrong)

/-- 'laws.FnExactIsFinal': WHATEVER THE INPUT: true; the input reads as it did. -/
def fnExactIsFinalSpec : ChangeSpec := { name := "fnExactIsFinal", vars := ["loop.example/transitfares/impl.sumSteps", "loop.example/transitfares/impl.stateLimits"], fn := fun _ => fun
  | [d, g1, g2] => { results := [.lit (.bool true)], args := [d], vars := [g1, g2] }
  | _ => none }
def fnExactIsFinalRow : OpenClaim := { program := "ytpdlngekeeaocaadoor", sum := "2ff7719c48eea3aba2fc341803c3ba8d8f8eb5ea87d3ff5b619b0fc21136fd81", func := "loop.example/transitfares/laws.FnExactIsFinal", spec := "fnExactIsFinal", named := ["loop.example/transitfares/impl.sumSteps", "loop.example/transitfares/impl.stateLimits"], apart := false, laid := [("loop.example/transitfares/impl.stateLimits", laid_loop_example_transitfares_impl_stateLimits), ("loop.example/transitfares/impl.sumSteps", laid_loop_example_transitfares_impl_sumSteps)] }
def FnExactIsFinalSaid : Prop := fnExactIsFinalRow.holds Tryd.pinned (OpenSpec.ofChange fnExactIsFinalSpec)

/-- ITS FALSE NEIGHBOUR: 'it returns false'. Refute it at one input. -/
def fnExactIsFinalWrong : ChangeSpec := { name := "fnExactIsFinal", vars := ["loop.example/transitfares/impl.sumSteps", "loop.example/transitfares/impl.stateLimits"], fn := fun _ => fun
  | [d, g1, g2] => { results := [.lit (.bool false)], args := [d], vars := [g1, g2] }
  | _ => none }
def FnExactIsFinalWrongFalsely : Prop := fnExactIsFinalRow.holds Tryd.pinned (OpenSpec.ofChange fnExactIsFinalWrong)

/-- 'laws.FnExactOwedOf': WHATEVER THE INPUT: true; the input reads as it did. -/
def fnExactOwedOfSpec : ChangeSpec := { name := "fnExactOwedOf", vars := ["loop.example/transitfares/impl.stateLimits"], fn := fun _ => fun
  | [d, g1] => { results := [.lit (.bool true)], args := [d], vars := [g1] }
  | _ => none }
def fnExactOwedOfRow : OpenClaim := { program := "ytpdlngekeeaocaadoor", sum := "2ff7719c48eea3aba2fc341803c3ba8d8f8eb5ea87d3ff5b619b0fc21136fd81", func := "loop.example/transitfares/laws.FnExactOwedOf", spec := "fnExactOwedOf", named := ["loop.example/transitfares/impl.stateLimits"], apart := false, laid := [("loop.example/transitfares/impl.stateLimits", laid_loop_example_transitfares_impl_stateLimits)] }
def FnExactOwedOfSaid : Prop := fnExactOwedOfRow.holds Tryd.pinned (OpenSpec.ofChange fnExactOwedOfSpec)

/-- ITS FALSE NEIGHBOUR: 'it returns false'. Refute it at one input. -/
def fnExactOwedOfWrong : ChangeSpec := { name := "fnExactOwedOf", vars := ["loop.example/transitfares/impl.stateLimits"], fn := fun _ => fun
  | [d, g1] => { results := [.lit (.bool false)], args := [d], vars := [g1] }
  | _ => none }
def FnExactOwedOfWrongFalsely : Prop := fnExactOwedOfRow.holds Tryd.pinned (OpenSpec.ofChange fnExactOwedOfWrong)

/-- 'laws.FnValidSum': WHATEVER THE INPUT: true; the input reads as it did. -/
def fnValidSumSpec : ChangeSpec := { name := "fnValidSum", vars := ["loop.example/transitfares/impl.stateLimits", "loop.example/transitfares/impl.sumSteps"], fn := fun _ => fun
  | [d, g1, g2] => { results := [.lit (.bool true)], args := [d], vars := [g1, g2] }
  | _ => none }
def fnValidSumRow : OpenClaim := { program := "ytpdlngekeeaocaadoor", sum := "2ff7719c48eea3aba2fc341803c3ba8d8f8eb5ea87d3ff5b619b0fc21136fd81", func := "loop.example/transitfares/laws.FnValidSum", spec := "fnValidSum", named := ["loop.example/transitfares/impl.stateLimits", "loop.example/transitfares/impl.sumSteps"], apart := false, laid := [("loop.example/transitfares/impl.stateLimits", laid_loop_example_transitfares_impl_stateLimits), ("loop.example/transitfares/impl.sumSteps", laid_loop_example_transitfares_impl_sumSteps)] }
def FnValidSumSaid : Prop := fnValidSumRow.holds Tryd.pinned (OpenSpec.ofChange fnValidSumSpec)

/-- ITS FALSE NEIGHBOUR: 'it returns false'. Refute it at one input. -/
def fnValidSumWrong : ChangeSpec := { name := "fnValidSum", vars := ["loop.example/transitfares/impl.stateLimits", "loop.example/transitfares/impl.sumSteps"], fn := fun _ => fun
  | [d, g1, g2] => { results := [.lit (.bool false)], args := [d], vars := [g1, g2] }
  | _ => none }
def FnValidSumWrongFalsely : Prop := fnValidSumRow.holds Tryd.pinned (OpenSpec.ofChange fnValidSumWrong)

/-- 'laws.FnStepSum': WHATEVER THE INPUT: true; the input reads as it did. -/
def fnStepSumSpec : ChangeSpec := { name := "fnStepSum", vars := ["loop.example/transitfares/impl.sumSteps", "loop.example/transitfares/impl.stateLimits"], fn := fun _ => fun
  | [d, g1, g2] => { results := [.lit (.bool true)], args := [d], vars := [g1, g2] }
  | _ => none }
def fnStepSumRow : OpenClaim := { program := "ytpdlngekeeaocaadoor", sum := "2ff7719c48eea3aba2fc341803c3ba8d8f8eb5ea87d3ff5b619b0fc21136fd81", func := "loop.example/transitfares/laws.FnStepSum", spec := "fnStepSum", named := ["loop.example/transitfares/impl.sumSteps", "loop.example/transitfares/impl.stateLimits"], apart := false, laid := [("loop.example/transitfares/impl.stateLimits", laid_loop_example_transitfares_impl_stateLimits), ("loop.example/transitfares/impl.sumSteps", laid_loop_example_transitfares_impl_sumSteps)] }
def FnStepSumSaid : Prop := fnStepSumRow.holds Tryd.pinned (OpenSpec.ofChange fnStepSumSpec)

/-- ITS FALSE NEIGHBOUR: 'it returns false'. Refute it at one input. -/
def fnStepSumWrong : ChangeSpec := { name := "fnStepSum", vars := ["loop.example/transitfares/impl.sumSteps", "loop.example/transitfares/impl.stateLimits"], fn := fun _ => fun
  | [d, g1, g2] => { results := [.lit (.bool false)], args := [d], vars := [g1, g2] }
  | _ => none }
def FnStepSumWrongFalsely : Prop := fnStepSumRow.holds Tryd.pinned (OpenSpec.ofChange fnStepSumWrong)

/-- 'laws.FnStepSumPaid': WHATEVER THE INPUT: true; the input reads as it did. -/
def fnStepSumPaidSpec : ChangeSpec := { name := "fnStepSumPaid", vars := ["loop.example/transitfares/impl.sumSteps", "loop.example/transitfares/impl.stateLimits"], fn := fun _ => fun
  | [d, g1, g2] => { results := [.lit (.bool true)], args := [d], vars := [g1, g2] }
  | _ => none }
def fnStepSumPaidRow : OpenClaim := { program := "ytpdlngekeeaocaadoor", sum := "2ff7719c48eea3aba2fc341803c3ba8d8f8eb5ea87d3ff5b619b0fc21136fd81", func := "loop.example/transitfares/laws.FnStepSumPaid", spec := "fnStepSumPaid", named := ["loop.example/transitfares/impl.sumSteps", "loop.example/transitfares/impl.stateLimits"], apart := false, laid := [("loop.example/transitfares/impl.stateLimits", laid_loop_example_transitfares_impl_stateLimits), ("loop.example/transitfares/impl.sumSteps", laid_loop_example_transitfares_impl_sumSteps)] }
def FnStepSumPaidSaid : Prop := fnStepSumPaidRow.holds Tryd.pinned (OpenSpec.ofChange fnStepSumPaidSpec)

/-- ITS FALSE NEIGHBOUR: 'it returns false'. Refute it at one input. -/
def fnStepSumPaidWrong : ChangeSpec := { name := "fnStepSumPaid", vars := ["loop.example/transitfares/impl.sumSteps", "loop.example/transitfares/impl.stateLimits"], fn := fun _ => fun
  | [d, g1, g2] => { results := [.lit (.bool false)], args := [d], vars := [g1, g2] }
  | _ => none }
def FnStepSumPaidWrongFalsely : Prop := fnStepSumPaidRow.holds Tryd.pinned (OpenSpec.ofChange fnStepSumPaidWrong)

/- THE SECOND FORM. 'bulk': how many values and letters a reading holds, each counted each time it is reached (what is shared counts as often as it is met; a slice's spare places count too). A statement '..UptoSaid' is the law's where the arguments, and the package variables that the reading takes, are together of bulk at most 1048576: NARROWER than '..Said'. Prove '..Said' where nothing that the law and all that it calls make is longer than what came in: it says more and counts as full. Else prove '..UptoSaid'. A law counts once. -/
mutual
def uptoBulk {H : Type} : DataW H → Nat
  | .lit (.string bytes) => bytes.length + 1
  | .lit _ => 1
  | .nil => 1
  | .ptr d => uptoBulk d + 1
  | .slice elems spare => uptoBulkAll elems + uptoBulkAll spare + 1
  | .agg parts => uptoBulkAll parts + 1
  | .iface _ d => uptoBulk d + 1
  | .map entries => uptoBulkEntries entries + 1
  | .held _ => 1
def uptoBulkAll {H : Type} : List (DataW H) → Nat
  | [] => 0
  | d :: r => uptoBulk d + uptoBulkAll r
def uptoBulkEntries {H : Type} : List (Lit × DataW H) → Nat
  | [] => 0
  | x :: r => uptoBulkEntry x + uptoBulkEntries r
def uptoBulkEntry {H : Type} : Lit × DataW H → Nat
  | (.string bytes, d) => bytes.length + uptoBulk d + 1
  | (_, d) => uptoBulk d + 1
 end
def uptoSmall : (H : Type) → List (DataW H) → Bool := fun _ ds => decide (uptoBulkAll ds ≤ 1048576)
def OpenSpec.upto (s : _root_.Go.ChangeSpec) : _root_.Go.OpenSpec := { _root_.Go.OpenSpec.ofChange s with cond := some uptoSmall }

/-- 'laws.FnExactValidSum', WHERE WHAT IT READS IS OF BULK AT MOST 1048576: true; the input reads as it did. -/
def fnExactValidSumUptoRow : OpenClaim := { program := "ytpdlngekeeaocaadoor", sum := "2ff7719c48eea3aba2fc341803c3ba8d8f8eb5ea87d3ff5b619b0fc21136fd81", func := "loop.example/transitfares/laws.FnExactValidSum", spec := "fnExactValidSum", named := ["loop.example/transitfares/impl.stateLimits"], apart := false, laid := [("loop.example/transitfares/impl.stateLimits", laid_loop_example_transitfares_impl_stateLimits)], narrowed := true }
def FnExactValidSumUptoSaid : Prop := fnExactValidSumUptoRow.holds Tryd.pinned (OpenSpec.upto fnExactValidSumSpec)

/-- 'laws.FnExactStepSum', WHERE WHAT IT READS IS OF BULK AT MOST 1048576: true; the input reads as it did. -/
def fnExactStepSumUptoRow : OpenClaim := { program := "ytpdlngekeeaocaadoor", sum := "2ff7719c48eea3aba2fc341803c3ba8d8f8eb5ea87d3ff5b619b0fc21136fd81", func := "loop.example/transitfares/laws.FnExactStepSum", spec := "fnExactStepSum", named := ["loop.example/transitfares/impl.sumSteps", "loop.example/transitfares/impl.stateLimits"], apart := false, laid := [("loop.example/transitfares/impl.stateLimits", laid_loop_example_transitfares_impl_stateLimits), ("loop.example/transitfares/impl.sumSteps", laid_loop_example_transitfares_impl_sumSteps)], narrowed := true }
def FnExactStepSumUptoSaid : Prop := fnExactStepSumUptoRow.holds Tryd.pinned (OpenSpec.upto fnExactStepSumSpec)

/-- 'laws.FnExactRunEvents', WHERE WHAT IT READS IS OF BULK AT MOST 1048576: true; the input reads as it did. -/
def fnExactRunEventsUptoRow : OpenClaim := { program := "ytpdlngekeeaocaadoor", sum := "2ff7719c48eea3aba2fc341803c3ba8d8f8eb5ea87d3ff5b619b0fc21136fd81", func := "loop.example/transitfares/laws.FnExactRunEvents", spec := "fnExactRunEvents", named := ["loop.example/transitfares/impl.stateLimits", "loop.example/transitfares/impl.sumSteps"], apart := false, laid := [("loop.example/transitfares/impl.stateLimits", laid_loop_example_transitfares_impl_stateLimits), ("loop.example/transitfares/impl.sumSteps", laid_loop_example_transitfares_impl_sumSteps)], narrowed := true }
def FnExactRunEventsUptoSaid : Prop := fnExactRunEventsUptoRow.holds Tryd.pinned (OpenSpec.upto fnExactRunEventsSpec)

/-- 'laws.FnExactIsFinal', WHERE WHAT IT READS IS OF BULK AT MOST 1048576: true; the input reads as it did. -/
def fnExactIsFinalUptoRow : OpenClaim := { program := "ytpdlngekeeaocaadoor", sum := "2ff7719c48eea3aba2fc341803c3ba8d8f8eb5ea87d3ff5b619b0fc21136fd81", func := "loop.example/transitfares/laws.FnExactIsFinal", spec := "fnExactIsFinal", named := ["loop.example/transitfares/impl.sumSteps", "loop.example/transitfares/impl.stateLimits"], apart := false, laid := [("loop.example/transitfares/impl.stateLimits", laid_loop_example_transitfares_impl_stateLimits), ("loop.example/transitfares/impl.sumSteps", laid_loop_example_transitfares_impl_sumSteps)], narrowed := true }
def FnExactIsFinalUptoSaid : Prop := fnExactIsFinalUptoRow.holds Tryd.pinned (OpenSpec.upto fnExactIsFinalSpec)

/-- 'laws.FnExactOwedOf', WHERE WHAT IT READS IS OF BULK AT MOST 1048576: true; the input reads as it did. -/
def fnExactOwedOfUptoRow : OpenClaim := { program := "ytpdlngekeeaocaadoor", sum := "2ff7719c48eea3aba2fc341803c3ba8d8f8eb5ea87d3ff5b619b0fc21136fd81", func := "loop.example/transitfares/laws.FnExactOwedOf", spec := "fnExactOwedOf", named := ["loop.example/transitfares/impl.stateLimits"], apart := false, laid := [("loop.example/transitfares/impl.stateLimits", laid_loop_example_transitfares_impl_stateLimits)], narrowed := true }
def FnExactOwedOfUptoSaid : Prop := fnExactOwedOfUptoRow.holds Tryd.pinned (OpenSpec.upto fnExactOwedOfSpec)

/-- 'laws.FnValidSum', WHERE WHAT IT READS IS OF BULK AT MOST 1048576: true; the input reads as it did. -/
def fnValidSumUptoRow : OpenClaim := { program := "ytpdlngekeeaocaadoor", sum := "2ff7719c48eea3aba2fc341803c3ba8d8f8eb5ea87d3ff5b619b0fc21136fd81", func := "loop.example/transitfares/laws.FnValidSum", spec := "fnValidSum", named := ["loop.example/transitfares/impl.stateLimits", "loop.example/transitfares/impl.sumSteps"], apart := false, laid := [("loop.example/transitfares/impl.stateLimits", laid_loop_example_transitfares_impl_stateLimits), ("loop.example/transitfares/impl.sumSteps", laid_loop_example_transitfares_impl_sumSteps)], narrowed := true }
def FnValidSumUptoSaid : Prop := fnValidSumUptoRow.holds Tryd.pinned (OpenSpec.upto fnValidSumSpec)

/-- 'laws.FnStepSum', WHERE WHAT IT READS IS OF BULK AT MOST 1048576: true; the input reads as it did. -/
def fnStepSumUptoRow : OpenClaim := { program := "ytpdlngekeeaocaadoor", sum := "2ff7719c48eea3aba2fc341803c3ba8d8f8eb5ea87d3ff5b619b0fc21136fd81", func := "loop.example/transitfares/laws.FnStepSum", spec := "fnStepSum", named := ["loop.example/transitfares/impl.sumSteps", "loop.example/transitfares/impl.stateLimits"], apart := false, laid := [("loop.example/transitfares/impl.stateLimits", laid_loop_example_transitfares_impl_stateLimits), ("loop.example/transitfares/impl.sumSteps", laid_loop_example_transitfares_impl_sumSteps)], narrowed := true }
def FnStepSumUptoSaid : Prop := fnStepSumUptoRow.holds Tryd.pinned (OpenSpec.upto fnStepSumSpec)

/-- 'laws.FnStepSumPaid', WHERE WHAT IT READS IS OF BULK AT MOST 1048576: true; the input reads as it did. -/
def fnStepSumPaidUptoRow : OpenClaim := { program := "ytpdlngekeeaocaadoor", sum := "2ff7719c48eea3aba2fc341803c3ba8d8f8eb5ea87d3ff5b619b0fc21136fd81", func := "loop.example/transitfares/laws.FnStepSumPaid", spec := "fnStepSumPaid", named := ["loop.example/transitfares/impl.sumSteps", "loop.example/transitfares/impl.stateLimits"], apart := false, laid := [("loop.example/transitfares/impl.stateLimits", laid_loop_example_transitfares_impl_stateLimits), ("loop.example/transitfares/impl.sumSteps", laid_loop_example_transitfares_impl_sumSteps)], narrowed := true }
def FnStepSumPaidUptoSaid : Prop := fnStepSumPaidUptoRow.holds Tryd.pinned (OpenSpec.upto fnStepSumPaidSpec)

end Rows
end Go.Proofs.YtpdlngekeeaocaaDoor
