/-
  No cell of these rows narrows 'for every input' (looked for: loops, veiled, ifaces, maps, wideKeys, modest, calm, conditions, laid).
  DERIVED. THE GIVEN ROWS OF THIS SEAT. 14 by the template 'for every input the law returns true; each argument reads behind the call as it read before'; 0 by the template 'total and deterministic' (their statements: YtdokilpinjabcaaTotals.lean).
  GIVEN WITH THE SEED: the statements are not yours to turn. If you find one false, say at which input.
  Laid BY PROGRAM, IN A SANDBOX (cutbox-rows.mjs): the forced cells as the released guide's own fill.sh prints them over the translation b8c21aae94d1a723… (all of the seat's roots in one cut). By AI agents, Wed Nov 11 2026. No macro, syntax, notation, axiom, sorry.
-/
import Derived.Test.YtdokilpinjabcaaChecked
import GoSem.Claim
import GoSem.ClaimJoined
import GoSem.ClaimMapViews
import Derived.JoinedTies
import Derived.KernelRfl
namespace Go.Proofs.Ytdokilpinjabcaa
/- THE CELL 'sum', in the pinned program and in every row, IS THE sha256 OF THE DUMP (.gsa) THAT YtdokilpinjabcaaProg.lean LOADS. Nothing in Lean hashes anything: it is a label: what it is worth is what the hold of that sum in a sandbox is worth. -/
noncomputable def Try.pinned : Pinned := { name := "ytdokilpinjabcaa", sum := "b8c21aae94d1a723cd275bc5e009c1a9f5b2e1ae298990ef5cab2307cdddb38a", checked := Try.checked }
namespace Rows
def none {H : Type} : Left H := { results := [], args := [] }

/-- 'laws.FnCapCharges': WHATEVER THE INPUT: true; the input reads as it did. -/
def fnCapChargesSpec : ChangeSpec := { name := "fnCapCharges", fn := fun _ => fun
  | [d] => { results := [.lit (.bool true)], args := [d] }
  | _ => none }
def fnCapChargesRow : OpenClaim := { program := "ytdokilpinjabcaa", sum := "b8c21aae94d1a723cd275bc5e009c1a9f5b2e1ae298990ef5cab2307cdddb38a", func := "loop.example/transitfares/laws.FnCapCharges", spec := "fnCapCharges", apart := false }
def FnCapChargesSaid : Prop := fnCapChargesRow.holds Try.pinned (OpenSpec.ofChange fnCapChargesSpec)

/-- ITS FALSE NEIGHBOUR: 'it returns false'. Refute it at one input. -/
def fnCapChargesWrong : ChangeSpec := { name := "fnCapCharges", fn := fun _ => fun
  | [d] => { results := [.lit (.bool false)], args := [d] }
  | _ => none }
def FnCapChargesWrongFalsely : Prop := fnCapChargesRow.holds Try.pinned (OpenSpec.ofChange fnCapChargesWrong)

/-- 'laws.FnCapChargesPrefix': WHATEVER THE INPUT: true; the input reads as it did. -/
def fnCapChargesPrefixSpec : ChangeSpec := { name := "fnCapChargesPrefix", fn := fun _ => fun
  | [d] => { results := [.lit (.bool true)], args := [d] }
  | _ => none }
def fnCapChargesPrefixRow : OpenClaim := { program := "ytdokilpinjabcaa", sum := "b8c21aae94d1a723cd275bc5e009c1a9f5b2e1ae298990ef5cab2307cdddb38a", func := "loop.example/transitfares/laws.FnCapChargesPrefix", spec := "fnCapChargesPrefix", apart := false }
def FnCapChargesPrefixSaid : Prop := fnCapChargesPrefixRow.holds Try.pinned (OpenSpec.ofChange fnCapChargesPrefixSpec)

/-- ITS FALSE NEIGHBOUR: 'it returns false'. Refute it at one input. -/
def fnCapChargesPrefixWrong : ChangeSpec := { name := "fnCapChargesPrefix", fn := fun _ => fun
  | [d] => { results := [.lit (.bool false)], args := [d] }
  | _ => none }
def FnCapChargesPrefixWrongFalsely : Prop := fnCapChargesPrefixRow.holds Try.pinned (OpenSpec.ofChange fnCapChargesPrefixWrong)

/-- 'laws.FnCapChargesLarge': WHATEVER THE INPUT: true; the input reads as it did. -/
def fnCapChargesLargeSpec : ChangeSpec := { name := "fnCapChargesLarge", fn := fun _ => fun
  | [d] => { results := [.lit (.bool true)], args := [d] }
  | _ => none }
def fnCapChargesLargeRow : OpenClaim := { program := "ytdokilpinjabcaa", sum := "b8c21aae94d1a723cd275bc5e009c1a9f5b2e1ae298990ef5cab2307cdddb38a", func := "loop.example/transitfares/laws.FnCapChargesLarge", spec := "fnCapChargesLarge", apart := false }
def FnCapChargesLargeSaid : Prop := fnCapChargesLargeRow.holds Try.pinned (OpenSpec.ofChange fnCapChargesLargeSpec)

/-- ITS FALSE NEIGHBOUR: 'it returns false'. Refute it at one input. -/
def fnCapChargesLargeWrong : ChangeSpec := { name := "fnCapChargesLarge", fn := fun _ => fun
  | [d] => { results := [.lit (.bool false)], args := [d] }
  | _ => none }
def FnCapChargesLargeWrongFalsely : Prop := fnCapChargesLargeRow.holds Try.pinned (OpenSpec.ofChange fnCapChargesLargeWrong)

/-- 'laws.FnCapChargesMore': WHATEVER THE INPUT: true; the input reads as it did. -/
def fnCapChargesMoreSpec : ChangeSpec := { name := "fnCapChargesMore", fn := fun _ => fun
  | [d] => { results := [.lit (.bool true)], args := [d] }
  | _ => none }
def fnCapChargesMoreRow : OpenClaim := { program := "ytdokilpinjabcaa", sum := "b8c21aae94d1a723cd275bc5e009c1a9f5b2e1ae298990ef5cab2307cdddb38a", func := "loop.example/transitfares/laws.FnCapChargesMore", spec := "fnCapChargesMore", apart := false }
def FnCapChargesMoreSaid : Prop := fnCapChargesMoreRow.holds Try.pinned (OpenSpec.ofChange fnCapChargesMoreSpec)

/-- ITS FALSE NEIGHBOUR: 'it returns false'. Refute it at one input. -/
def fnCapChargesMoreWrong : ChangeSpec := { name := "fnCapChargesMore", fn := fun _ => fun
  | [d] => { results := [.lit (.bool false)], args := [d] }
  | _ => none }
def FnCapChargesMoreWrongFalsely : Prop := fnCapChargesMoreRow.holds Try.pinned (OpenSpec.ofChange fnCapChargesMoreWrong)

/-- 'laws.FnDayTotals': WHATEVER THE INPUT: true; the input reads as it did. -/
def fnDayTotalsSpec : ChangeSpec := { name := "fnDayTotals", fn := fun _ => fun
  | [d] => { results := [.lit (.bool true)], args := [d] }
  | _ => none }
def fnDayTotalsRow : OpenClaim := { program := "ytdokilpinjabcaa", sum := "b8c21aae94d1a723cd275bc5e009c1a9f5b2e1ae298990ef5cab2307cdddb38a", func := "loop.example/transitfares/laws.FnDayTotals", spec := "fnDayTotals", apart := false }
def FnDayTotalsSaid : Prop := fnDayTotalsRow.holds Try.pinned (OpenSpec.ofChange fnDayTotalsSpec)

/-- ITS FALSE NEIGHBOUR: 'it returns false'. Refute it at one input. -/
def fnDayTotalsWrong : ChangeSpec := { name := "fnDayTotals", fn := fun _ => fun
  | [d] => { results := [.lit (.bool false)], args := [d] }
  | _ => none }
def FnDayTotalsWrongFalsely : Prop := fnDayTotalsRow.holds Try.pinned (OpenSpec.ofChange fnDayTotalsWrong)

/-- 'laws.FnSavedBy': WHATEVER THE INPUT: true; the input reads as it did. -/
def fnSavedBySpec : ChangeSpec := { name := "fnSavedBy", fn := fun _ => fun
  | [d] => { results := [.lit (.bool true)], args := [d] }
  | _ => none }
def fnSavedByRow : OpenClaim := { program := "ytdokilpinjabcaa", sum := "b8c21aae94d1a723cd275bc5e009c1a9f5b2e1ae298990ef5cab2307cdddb38a", func := "loop.example/transitfares/laws.FnSavedBy", spec := "fnSavedBy", apart := false }
def FnSavedBySaid : Prop := fnSavedByRow.holds Try.pinned (OpenSpec.ofChange fnSavedBySpec)

/-- ITS FALSE NEIGHBOUR: 'it returns false'. Refute it at one input. -/
def fnSavedByWrong : ChangeSpec := { name := "fnSavedBy", fn := fun _ => fun
  | [d] => { results := [.lit (.bool false)], args := [d] }
  | _ => none }
def FnSavedByWrongFalsely : Prop := fnSavedByRow.holds Try.pinned (OpenSpec.ofChange fnSavedByWrong)

/-- 'laws.FnChargesOf': WHATEVER THE INPUT: true; the input reads as it did. -/
def fnChargesOfSpec : ChangeSpec := { name := "fnChargesOf", fn := fun _ => fun
  | [d] => { results := [.lit (.bool true)], args := [d] }
  | _ => none }
def fnChargesOfRow : OpenClaim := { program := "ytdokilpinjabcaa", sum := "b8c21aae94d1a723cd275bc5e009c1a9f5b2e1ae298990ef5cab2307cdddb38a", func := "loop.example/transitfares/laws.FnChargesOf", spec := "fnChargesOf", apart := false }
def FnChargesOfSaid : Prop := fnChargesOfRow.holds Try.pinned (OpenSpec.ofChange fnChargesOfSpec)

/-- ITS FALSE NEIGHBOUR: 'it returns false'. Refute it at one input. -/
def fnChargesOfWrong : ChangeSpec := { name := "fnChargesOf", fn := fun _ => fun
  | [d] => { results := [.lit (.bool false)], args := [d] }
  | _ => none }
def FnChargesOfWrongFalsely : Prop := fnChargesOfRow.holds Try.pinned (OpenSpec.ofChange fnChargesOfWrong)

/-- 'laws.FnCapChargesTotal': WHATEVER THE INPUT: true; the input reads as it did. -/
def fnCapChargesTotalSpec : ChangeSpec := { name := "fnCapChargesTotal", fn := fun _ => fun
  | [d] => { results := [.lit (.bool true)], args := [d] }
  | _ => none }
def fnCapChargesTotalRow : OpenClaim := { program := "ytdokilpinjabcaa", sum := "b8c21aae94d1a723cd275bc5e009c1a9f5b2e1ae298990ef5cab2307cdddb38a", func := "loop.example/transitfares/laws.FnCapChargesTotal", spec := "fnCapChargesTotal", apart := false }
def FnCapChargesTotalSaid : Prop := fnCapChargesTotalRow.holds Try.pinned (OpenSpec.ofChange fnCapChargesTotalSpec)

/-- ITS FALSE NEIGHBOUR: 'it returns false'. Refute it at one input. -/
def fnCapChargesTotalWrong : ChangeSpec := { name := "fnCapChargesTotal", fn := fun _ => fun
  | [d] => { results := [.lit (.bool false)], args := [d] }
  | _ => none }
def FnCapChargesTotalWrongFalsely : Prop := fnCapChargesTotalRow.holds Try.pinned (OpenSpec.ofChange fnCapChargesTotalWrong)

/-- 'laws.FnDayTotalsParts': WHATEVER THE INPUT: true; the input reads as it did. -/
def fnDayTotalsPartsSpec : ChangeSpec := { name := "fnDayTotalsParts", fn := fun _ => fun
  | [d] => { results := [.lit (.bool true)], args := [d] }
  | _ => none }
def fnDayTotalsPartsRow : OpenClaim := { program := "ytdokilpinjabcaa", sum := "b8c21aae94d1a723cd275bc5e009c1a9f5b2e1ae298990ef5cab2307cdddb38a", func := "loop.example/transitfares/laws.FnDayTotalsParts", spec := "fnDayTotalsParts", apart := false }
def FnDayTotalsPartsSaid : Prop := fnDayTotalsPartsRow.holds Try.pinned (OpenSpec.ofChange fnDayTotalsPartsSpec)

/-- ITS FALSE NEIGHBOUR: 'it returns false'. Refute it at one input. -/
def fnDayTotalsPartsWrong : ChangeSpec := { name := "fnDayTotalsParts", fn := fun _ => fun
  | [d] => { results := [.lit (.bool false)], args := [d] }
  | _ => none }
def FnDayTotalsPartsWrongFalsely : Prop := fnDayTotalsPartsRow.holds Try.pinned (OpenSpec.ofChange fnDayTotalsPartsWrong)

/-- 'laws.FnSavedByMore': WHATEVER THE INPUT: true; the input reads as it did. -/
def fnSavedByMoreSpec : ChangeSpec := { name := "fnSavedByMore", fn := fun _ => fun
  | [d] => { results := [.lit (.bool true)], args := [d] }
  | _ => none }
def fnSavedByMoreRow : OpenClaim := { program := "ytdokilpinjabcaa", sum := "b8c21aae94d1a723cd275bc5e009c1a9f5b2e1ae298990ef5cab2307cdddb38a", func := "loop.example/transitfares/laws.FnSavedByMore", spec := "fnSavedByMore", apart := false }
def FnSavedByMoreSaid : Prop := fnSavedByMoreRow.holds Try.pinned (OpenSpec.ofChange fnSavedByMoreSpec)

/-- ITS FALSE NEIGHBOUR: 'it returns false'. Refute it at one input. -/
def fnSavedByMoreWrong : ChangeSpec := { name := "fnSavedByMore", fn := fun _ => fun
  | [d] => { results := [.lit (.bool false)], args := [d] }
  | _ => none }
def FnSavedByMoreWrongFalsely : Prop := fnSavedByMoreRow.holds Try.pinned (OpenSpec.ofChange fnSavedByMoreWrong)

/-- 'laws.FnExactCapCharges': WHATEVER THE INPUT: true; the input reads as it did. -/
def fnExactCapChargesSpec : ChangeSpec := { name := "fnExactCapCharges", fn := fun _ => fun
  | [d1, d2, d3] => { results := [.lit (.bool true)], args := [d1, d2, d3] }
  | _ => none }
def fnExactCapChargesRow : OpenClaim := { program := "ytdokilpinjabcaa", sum := "b8c21aae94d1a723cd275bc5e009c1a9f5b2e1ae298990ef5cab2307cdddb38a", func := "loop.example/transitfares/laws.FnExactCapCharges", spec := "fnExactCapCharges", apart := false }
def FnExactCapChargesSaid : Prop := fnExactCapChargesRow.holds Try.pinned (OpenSpec.ofChange fnExactCapChargesSpec)

/-- ITS FALSE NEIGHBOUR: 'it returns false'. Refute it at one input. -/
def fnExactCapChargesWrong : ChangeSpec := { name := "fnExactCapCharges", fn := fun _ => fun
  | [d1, d2, d3] => { results := [.lit (.bool false)], args := [d1, d2, d3] }
  | _ => none }
def FnExactCapChargesWrongFalsely : Prop := fnExactCapChargesRow.holds Try.pinned (OpenSpec.ofChange fnExactCapChargesWrong)

/-- 'laws.FnExactDayTotals': WHATEVER THE INPUT: true; the input reads as it did. -/
def fnExactDayTotalsSpec : ChangeSpec := { name := "fnExactDayTotals", fn := fun _ => fun
  | [d] => { results := [.lit (.bool true)], args := [d] }
  | _ => none }
def fnExactDayTotalsRow : OpenClaim := { program := "ytdokilpinjabcaa", sum := "b8c21aae94d1a723cd275bc5e009c1a9f5b2e1ae298990ef5cab2307cdddb38a", func := "loop.example/transitfares/laws.FnExactDayTotals", spec := "fnExactDayTotals", apart := false }
def FnExactDayTotalsSaid : Prop := fnExactDayTotalsRow.holds Try.pinned (OpenSpec.ofChange fnExactDayTotalsSpec)

/-- ITS FALSE NEIGHBOUR: 'it returns false'. Refute it at one input. -/
def fnExactDayTotalsWrong : ChangeSpec := { name := "fnExactDayTotals", fn := fun _ => fun
  | [d] => { results := [.lit (.bool false)], args := [d] }
  | _ => none }
def FnExactDayTotalsWrongFalsely : Prop := fnExactDayTotalsRow.holds Try.pinned (OpenSpec.ofChange fnExactDayTotalsWrong)

/-- 'laws.FnExactSavedBy': WHATEVER THE INPUT: true; the input reads as it did. -/
def fnExactSavedBySpec : ChangeSpec := { name := "fnExactSavedBy", fn := fun _ => fun
  | [d1, d2, d3] => { results := [.lit (.bool true)], args := [d1, d2, d3] }
  | _ => none }
def fnExactSavedByRow : OpenClaim := { program := "ytdokilpinjabcaa", sum := "b8c21aae94d1a723cd275bc5e009c1a9f5b2e1ae298990ef5cab2307cdddb38a", func := "loop.example/transitfares/laws.FnExactSavedBy", spec := "fnExactSavedBy", apart := false }
def FnExactSavedBySaid : Prop := fnExactSavedByRow.holds Try.pinned (OpenSpec.ofChange fnExactSavedBySpec)

/-- ITS FALSE NEIGHBOUR: 'it returns false'. Refute it at one input. -/
def fnExactSavedByWrong : ChangeSpec := { name := "fnExactSavedBy", fn := fun _ => fun
  | [d1, d2, d3] => { results := [.lit (.bool false)], args := [d1, d2, d3] }
  | _ => none }
def FnExactSavedByWrongFalsely : Prop := fnExactSavedByRow.holds Try.pinned (OpenSpec.ofChange fnExactSavedByWrong)

/-- 'laws.FnExactChargesOf': WHATEVER THE INPUT: true; the input reads as it did. -/
def fnExactChargesOfSpec : ChangeSpec := { name := "fnExactChargesOf", fn := fun _ => fun
  | [d1, d2] => { results := [.lit (.bool true)], args := [d1, d2] }
  | _ => none }
def fnExactChargesOfRow : OpenClaim := { program := "ytdokilpinjabcaa", sum := "b8c21aae94d1a723cd275bc5e009c1a9f5b2e1ae298990ef5cab2307cdddb38a", func := "loop.example/transitfares/laws.FnExactChargesOf", spec := "fnExactChargesOf", apart := false }
def FnExactChargesOfSaid : Prop := fnExactChargesOfRow.holds Try.pinned (OpenSpec.ofChange fnExactChargesOfSpec)

/-- ITS FALSE NEIGHBOUR: 'it returns false'. Refute it at one input. -/
def fnExactChargesOfWrong : ChangeSpec := { name := "fnExactChargesOf", fn := fun _ => fun
  | [d1, d2] => { results := [.lit (.bool false)], args := [d1, d2] }
  | _ => none }
def FnExactChargesOfWrongFalsely : Prop := fnExactChargesOfRow.holds Try.pinned (OpenSpec.ofChange fnExactChargesOfWrong)

/- THE SECOND FORM. 'bulk': how many values and letters a reading holds, each counted each time it is reached (what is shared counts as often as it is met; a slice's spare places count too). A statement '..UptoSaid' is the law's where the arguments, and the package variables that the reading takes, are together of bulk at most 1048576: NARROWER than '..Said'. Prove '..Said' where nothing that the law and all that it calls make is longer than what came in: it says more and counts as full. Else prove '..UptoSaid'. A law counts once. -/
mutual
def uptoBulk {H : Type} : DataW H → Nat
  | .lit (.string bytes) => bytes.length + 1
  | .lit _ => 1
  | .nil => 1
  | .ptr d => uptoBulk d + 1
  | .slice elems spare => uptoBulkAll elems + uptoBulkAll spare + 1
  | .agg parts => uptoBulkAll parts + 1
  | .iface _ d => uptoBulk d + 1
  | .map entries => uptoBulkEntries entries + 1
  | .held _ => 1
def uptoBulkAll {H : Type} : List (DataW H) → Nat
  | [] => 0
  | d :: r => uptoBulk d + uptoBulkAll r
def uptoBulkEntries {H : Type} : List (Lit × DataW H) → Nat
  | [] => 0
  | x :: r => uptoBulkEntry x + uptoBulkEntries r
def uptoBulkEntry {H : Type} : Lit × DataW H → Nat
  | (.string bytes, d) => bytes.length + uptoBulk d + 1
  | (_, d) => uptoBulk d + 1
 end
def uptoSmall : (H : Type) → List (DataW H) → Bool := fun _ ds => decide (uptoBulkAll ds ≤ 1048576)
def OpenSpec.upto (s : _root_.Go.ChangeSpec) : _root_.Go.OpenSpec := { _root_.Go.OpenSpec.ofChange s with cond := some uptoSmall }

/-- 'laws.FnCapCharges', WHERE WHAT IT READS IS OF BULK AT MOST 1048576: true; the input reads as it did. -/
def fnCapChargesUptoRow : OpenClaim := { program := "ytdokilpinjabcaa", sum := "b8c21aae94d1a723cd275bc5e009c1a9f5b2e1ae298990ef5cab2307cdddb38a", func := "loop.example/transitfares/laws.FnCapCharges", spec := "fnCapCharges", apart := false, narrowed := true }
def FnCapChargesUptoSaid : Prop := fnCapChargesUptoRow.holds Try.pinned (OpenSpec.upto fnCapChargesSpec)

/-- 'laws.FnCapChargesPrefix', WHERE WHAT IT READS IS OF BULK AT MOST 1048576: true; the input reads as it did. -/
def fnCapChargesPrefixUptoRow : OpenClaim := { program := "ytdokilpinjabcaa", sum := "b8c21aae94d1a723cd275bc5e009c1a9f5b2e1ae298990ef5cab2307cdddb38a", func := "loop.example/transitfares/laws.FnCapChargesPrefix", spec := "fnCapChargesPrefix", apart := false, narrowed := true }
def FnCapChargesPrefixUptoSaid : Prop := fnCapChargesPrefixUptoRow.holds Try.pinned (OpenSpec.upto fnCapChargesPrefixSpec)

/-- 'laws.FnCapChargesLarge', WHERE WHAT IT READS IS OF BULK AT MOST 1048576: true; the input reads as it did. -/
def fnCapChargesLargeUptoRow : OpenClaim := { program := "ytdokilpinjabcaa", sum := "b8c21aae94d1a723cd275bc5e009c1a9f5b2e1ae298990ef5cab2307cdddb38a", func := "loop.example/transitfares/laws.FnCapChargesLarge", spec := "fnCapChargesLarge", apart := false, narrowed := true }
def FnCapChargesLargeUptoSaid : Prop := fnCapChargesLargeUptoRow.holds Try.pinned (OpenSpec.upto fnCapChargesLargeSpec)

/-- 'laws.FnCapChargesMore', WHERE WHAT IT READS IS OF BULK AT MOST 1048576: true; the input reads as it did. -/
def fnCapChargesMoreUptoRow : OpenClaim := { program := "ytdokilpinjabcaa", sum := "b8c21aae94d1a723cd275bc5e009c1a9f5b2e1ae298990ef5cab2307cdddb38a", func := "loop.example/transitfares/laws.FnCapChargesMore", spec := "fnCapChargesMore", apart := false, narrowed := true }
def FnCapChargesMoreUptoSaid : Prop := fnCapChargesMoreUptoRow.holds Try.pinned (OpenSpec.upto fnCapChargesMoreSpec)

/-- 'laws.FnDayTotals', WHERE WHAT IT READS IS OF BULK AT MOST 1048576: true; the input reads as it did. -/
def fnDayTotalsUptoRow : OpenClaim := { program := "ytdokilpinjabcaa", sum := "b8c21aae94d1a723cd275bc5e009c1a9f5b2e1ae298990ef5cab2307cdddb38a", func := "loop.example/transitfares/laws.FnDayTotals", spec := "fnDayTotals", apart := false, narrowed := true }
def FnDayTotalsUptoSaid : Prop := fnDayTotalsUptoRow.holds Try.pinned (OpenSpec.upto fnDayTotalsSpec)

/-- 'laws.FnSavedBy', WHERE WHAT IT READS IS OF BULK AT MOST 1048576: true; the input reads as it did. -/
def fnSavedByUptoRow : OpenClaim := { program := "ytdokilpinjabcaa", sum := "b8c21aae94d1a723cd275bc5e009c1a9f5b2e1ae298990ef5cab2307cdddb38a", func := "loop.example/transitfares/laws.FnSavedBy", spec := "fnSavedBy", apart := false, narrowed := true }
def FnSavedByUptoSaid : Prop := fnSavedByUptoRow.holds Try.pinned (OpenSpec.upto fnSavedBySpec)

/-- 'laws.FnChargesOf', WHERE WHAT IT READS IS OF BULK AT MOST 1048576: true; the input reads as it did. -/
def fnChargesOfUptoRow : OpenClaim := { program := "ytdokilpinjabcaa", sum := "b8c21aae94d1a723cd275bc5e009c1a9f5b2e1ae298990ef5cab2307cdddb38a", func := "loop.example/transitfares/laws.FnChargesOf", spec := "fnChargesOf", apart := false, narrowed := true }
def FnChargesOfUptoSaid : Prop := fnChargesOfUptoRow.holds Try.pinned (OpenSpec.upto fnChargesOfSpec)

/-- 'laws.FnCapChargesTotal', WHERE WHAT IT READS IS OF BULK AT MOST 1048576: true; the input reads as it did. -/
def fnCapChargesTotalUptoRow : OpenClaim := { program := "ytdokilpinjabcaa", sum := "b8c21aae94d1a723cd275bc5e009c1a9f5b2e1ae298990ef5cab2307cdddb38a", func := "loop.example/transitfares/laws.FnCapChargesTotal", spec := "fnCapChargesTotal", apart := false, narrowed := true }
def FnCapChargesTotalUptoSaid : Prop := fnCapChargesTotalUptoRow.holds Try.pinned (OpenSpec.upto fnCapChargesTotalSpec)

/-- 'laws.FnDayTotalsParts', WHERE WHAT IT READS IS OF BULK AT MOST 1048576: true; the input reads as it did. -/
def fnDayTotalsPartsUptoRow : OpenClaim := { program := "ytdokilpinjabcaa", sum := "b8c21aae94d1a723cd275bc5e009c1a9f5b2e1ae298990ef5cab2307cdddb38a", func := "loop.example/transitfares/laws.FnDayTotalsParts", spec := "fnDayTotalsParts", apart := false, narrowed := true }
def FnDayTotalsPartsUptoSaid : Prop := fnDayTotalsPartsUptoRow.holds Try.pinned (OpenSpec.upto fnDayTotalsPartsSpec)

/-- 'laws.FnSavedByMore', WHERE WHAT IT READS IS OF BULK AT MOST 1048576: true; the input reads as it did. -/
def fnSavedByMoreUptoRow : OpenClaim := { program := "ytdokilpinjabcaa", sum := "b8c21aae94d1a723cd275bc5e009c1a9f5b2e1ae298990ef5cab2307cdddb38a", func := "loop.example/transitfares/laws.FnSavedByMore", spec := "fnSavedByMore", apart := false, narrowed := true }
def FnSavedByMoreUptoSaid : Prop := fnSavedByMoreUptoRow.holds Try.pinned (OpenSpec.upto fnSavedByMoreSpec)

/-- 'laws.FnExactCapCharges', WHERE WHAT IT READS IS OF BULK AT MOST 1048576: true; the input reads as it did. -/
def fnExactCapChargesUptoRow : OpenClaim := { program := "ytdokilpinjabcaa", sum := "b8c21aae94d1a723cd275bc5e009c1a9f5b2e1ae298990ef5cab2307cdddb38a", func := "loop.example/transitfares/laws.FnExactCapCharges", spec := "fnExactCapCharges", apart := false, narrowed := true }
def FnExactCapChargesUptoSaid : Prop := fnExactCapChargesUptoRow.holds Try.pinned (OpenSpec.upto fnExactCapChargesSpec)

/-- 'laws.FnExactDayTotals', WHERE WHAT IT READS IS OF BULK AT MOST 1048576: true; the input reads as it did. -/
def fnExactDayTotalsUptoRow : OpenClaim := { program := "ytdokilpinjabcaa", sum := "b8c21aae94d1a723cd275bc5e009c1a9f5b2e1ae298990ef5cab2307cdddb38a", func := "loop.example/transitfares/laws.FnExactDayTotals", spec := "fnExactDayTotals", apart := false, narrowed := true }
def FnExactDayTotalsUptoSaid : Prop := fnExactDayTotalsUptoRow.holds Try.pinned (OpenSpec.upto fnExactDayTotalsSpec)

/-- 'laws.FnExactSavedBy', WHERE WHAT IT READS IS OF BULK AT MOST 1048576: true; the input reads as it did. -/
def fnExactSavedByUptoRow : OpenClaim := { program := "ytdokilpinjabcaa", sum := "b8c21aae94d1a723cd275bc5e009c1a9f5b2e1ae298990ef5cab2307cdddb38a", func := "loop.example/transitfares/laws.FnExactSavedBy", spec := "fnExactSavedBy", apart := false, narrowed := true }
def FnExactSavedByUptoSaid : Prop := fnExactSavedByUptoRow.holds Try.pinned (OpenSpec.upto fnExactSavedBySpec)

/-- 'laws.FnExactChargesOf', WHERE WHAT IT READS IS OF BULK AT MOST 1048576: true; the input reads as it did. -/
def fnExactChargesOfUptoRow : OpenClaim := { program := "ytdokilpinjabcaa", sum := "b8c21aae94d1a723cd275bc5e009c1a9f5b2e1ae298990ef5cab2307cdddb38a", func := "loop.example/transitfares/laws.FnExactChargesOf", spec := "fnExactChargesOf", apart := false, narrowed := true }
def FnExactChargesOfUptoSaid : Prop := fnExactChargesOfUptoRow.holds Try.pinned (OpenSpec.upto fnExactChargesOfSpec)

end Rows
end Go.Proofs.Ytdokilpinjabcaa
