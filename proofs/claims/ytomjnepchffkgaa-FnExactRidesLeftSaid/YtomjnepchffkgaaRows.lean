/-
  No cell of these rows narrows 'for every input' (looked for: loops, veiled, ifaces, maps, wideKeys, modest, calm, conditions, laid).
  DERIVED. THE GIVEN ROWS OF THIS SEAT. 8 by the template 'for every input the law returns true; each argument reads behind the call as it read before'; 0 by the template 'total and deterministic' (their statements: YtomjnepchffkgaaTotals.lean).
  GIVEN WITH THE SEED: the statements are not yours to turn. If you find one false, say at which input.
  Laid BY PROGRAM, IN A SANDBOX (cutbox-rows.mjs): the forced cells as the released guide's own fill.sh prints them over the translation c833e803e12981de… (all of the seat's roots in one cut). By AI agents, Wed Nov 11 2026. No macro, syntax, notation, axiom, sorry.
-/
import Derived.Test.YtomjnepchffkgaaChecked
import GoSem.Claim
import GoSem.ClaimJoined
import GoSem.ClaimMapViews
import Derived.JoinedTies
import Derived.KernelRfl
namespace Go.Proofs.Ytomjnepchffkgaa
/- THE CELL 'sum', in the pinned program and in every row, IS THE sha256 OF THE DUMP (.gsa) THAT YtomjnepchffkgaaProg.lean LOADS. Nothing in Lean hashes anything: it is a label: what it is worth is what the hold of that sum in a sandbox is worth. -/
noncomputable def Try.pinned : Pinned := { name := "ytomjnepchffkgaa", sum := "c833e803e12981de9a3f3361831a204aae2d9ab4c259cf088b25b0459014d26c", checked := Try.checked }
namespace Rows
def none {H : Type} : Left H := { results := [], args := [] }

/-- 'laws.FnTrustOf': WHATEVER THE INPUT: true; the input reads as it did. -/
def fnTrustOfSpec : ChangeSpec := { name := "fnTrustOf", fn := fun _ => fun
  | [d] => { results := [.lit (.bool true)], args := [d] }
  | _ => none }
def fnTrustOfRow : OpenClaim := { program := "ytomjnepchffkgaa", sum := "c833e803e12981de9a3f3361831a204aae2d9ab4c259cf088b25b0459014d26c", func := "loop.example/transitfares/laws.FnTrustOf", spec := "fnTrustOf", apart := false }
def FnTrustOfSaid : Prop := fnTrustOfRow.holds Try.pinned (OpenSpec.ofChange fnTrustOfSpec)

/-- ITS FALSE NEIGHBOUR: 'it returns false'. Refute it at one input. -/
def fnTrustOfWrong : ChangeSpec := { name := "fnTrustOf", fn := fun _ => fun
  | [d] => { results := [.lit (.bool false)], args := [d] }
  | _ => none }
def FnTrustOfWrongFalsely : Prop := fnTrustOfRow.holds Try.pinned (OpenSpec.ofChange fnTrustOfWrong)

/-- 'laws.FnTrustOfFirst': WHATEVER THE INPUT: true; the input reads as it did. -/
def fnTrustOfFirstSpec : ChangeSpec := { name := "fnTrustOfFirst", fn := fun _ => fun
  | [d] => { results := [.lit (.bool true)], args := [d] }
  | _ => none }
def fnTrustOfFirstRow : OpenClaim := { program := "ytomjnepchffkgaa", sum := "c833e803e12981de9a3f3361831a204aae2d9ab4c259cf088b25b0459014d26c", func := "loop.example/transitfares/laws.FnTrustOfFirst", spec := "fnTrustOfFirst", apart := false }
def FnTrustOfFirstSaid : Prop := fnTrustOfFirstRow.holds Try.pinned (OpenSpec.ofChange fnTrustOfFirstSpec)

/-- ITS FALSE NEIGHBOUR: 'it returns false'. Refute it at one input. -/
def fnTrustOfFirstWrong : ChangeSpec := { name := "fnTrustOfFirst", fn := fun _ => fun
  | [d] => { results := [.lit (.bool false)], args := [d] }
  | _ => none }
def FnTrustOfFirstWrongFalsely : Prop := fnTrustOfFirstRow.holds Try.pinned (OpenSpec.ofChange fnTrustOfFirstWrong)

/-- 'laws.FnMayRide': WHATEVER THE INPUT: true; the input reads as it did. -/
def fnMayRideSpec : ChangeSpec := { name := "fnMayRide", fn := fun _ => fun
  | [d] => { results := [.lit (.bool true)], args := [d] }
  | _ => none }
def fnMayRideRow : OpenClaim := { program := "ytomjnepchffkgaa", sum := "c833e803e12981de9a3f3361831a204aae2d9ab4c259cf088b25b0459014d26c", func := "loop.example/transitfares/laws.FnMayRide", spec := "fnMayRide", apart := false }
def FnMayRideSaid : Prop := fnMayRideRow.holds Try.pinned (OpenSpec.ofChange fnMayRideSpec)

/-- ITS FALSE NEIGHBOUR: 'it returns false'. Refute it at one input. -/
def fnMayRideWrong : ChangeSpec := { name := "fnMayRide", fn := fun _ => fun
  | [d] => { results := [.lit (.bool false)], args := [d] }
  | _ => none }
def FnMayRideWrongFalsely : Prop := fnMayRideRow.holds Try.pinned (OpenSpec.ofChange fnMayRideWrong)

/-- 'laws.FnRidesLeft': WHATEVER THE INPUT: true; the input reads as it did. -/
def fnRidesLeftSpec : ChangeSpec := { name := "fnRidesLeft", fn := fun _ => fun
  | [d] => { results := [.lit (.bool true)], args := [d] }
  | _ => none }
def fnRidesLeftRow : OpenClaim := { program := "ytomjnepchffkgaa", sum := "c833e803e12981de9a3f3361831a204aae2d9ab4c259cf088b25b0459014d26c", func := "loop.example/transitfares/laws.FnRidesLeft", spec := "fnRidesLeft", apart := false }
def FnRidesLeftSaid : Prop := fnRidesLeftRow.holds Try.pinned (OpenSpec.ofChange fnRidesLeftSpec)

/-- ITS FALSE NEIGHBOUR: 'it returns false'. Refute it at one input. -/
def fnRidesLeftWrong : ChangeSpec := { name := "fnRidesLeft", fn := fun _ => fun
  | [d] => { results := [.lit (.bool false)], args := [d] }
  | _ => none }
def FnRidesLeftWrongFalsely : Prop := fnRidesLeftRow.holds Try.pinned (OpenSpec.ofChange fnRidesLeftWrong)

/-- 'laws.FnRidesLeftPrice': WHATEVER THE INPUT: true; the input reads as it did. -/
def fnRidesLeftPriceSpec : ChangeSpec := { name := "fnRidesLeftPrice", fn := fun _ => fun
  | [d] => { results := [.lit (.bool true)], args := [d] }
  | _ => none }
def fnRidesLeftPriceRow : OpenClaim := { program := "ytomjnepchffkgaa", sum := "c833e803e12981de9a3f3361831a204aae2d9ab4c259cf088b25b0459014d26c", func := "loop.example/transitfares/laws.FnRidesLeftPrice", spec := "fnRidesLeftPrice", apart := false }
def FnRidesLeftPriceSaid : Prop := fnRidesLeftPriceRow.holds Try.pinned (OpenSpec.ofChange fnRidesLeftPriceSpec)

/-- ITS FALSE NEIGHBOUR: 'it returns false'. Refute it at one input. -/
def fnRidesLeftPriceWrong : ChangeSpec := { name := "fnRidesLeftPrice", fn := fun _ => fun
  | [d] => { results := [.lit (.bool false)], args := [d] }
  | _ => none }
def FnRidesLeftPriceWrongFalsely : Prop := fnRidesLeftPriceRow.holds Try.pinned (OpenSpec.ofChange fnRidesLeftPriceWrong)

/-- 'laws.FnExactTrustOf': WHATEVER THE INPUT: true; the input reads as it did. -/
def fnExactTrustOfSpec : ChangeSpec := { name := "fnExactTrustOf", fn := fun _ => fun
  | [d1, d2, d3] => { results := [.lit (.bool true)], args := [d1, d2, d3] }
  | _ => none }
def fnExactTrustOfRow : OpenClaim := { program := "ytomjnepchffkgaa", sum := "c833e803e12981de9a3f3361831a204aae2d9ab4c259cf088b25b0459014d26c", func := "loop.example/transitfares/laws.FnExactTrustOf", spec := "fnExactTrustOf", apart := false }
def FnExactTrustOfSaid : Prop := fnExactTrustOfRow.holds Try.pinned (OpenSpec.ofChange fnExactTrustOfSpec)

/-- ITS FALSE NEIGHBOUR: 'it returns false'. Refute it at one input. -/
def fnExactTrustOfWrong : ChangeSpec := { name := "fnExactTrustOf", fn := fun _ => fun
  | [d1, d2, d3] => { results := [.lit (.bool false)], args := [d1, d2, d3] }
  | _ => none }
def FnExactTrustOfWrongFalsely : Prop := fnExactTrustOfRow.holds Try.pinned (OpenSpec.ofChange fnExactTrustOfWrong)

/-- 'laws.FnExactMayRide': WHATEVER THE INPUT: true; the input reads as it did. -/
def fnExactMayRideSpec : ChangeSpec := { name := "fnExactMayRide", fn := fun _ => fun
  | [d1, d2, d3] => { results := [.lit (.bool true)], args := [d1, d2, d3] }
  | _ => none }
def fnExactMayRideRow : OpenClaim := { program := "ytomjnepchffkgaa", sum := "c833e803e12981de9a3f3361831a204aae2d9ab4c259cf088b25b0459014d26c", func := "loop.example/transitfares/laws.FnExactMayRide", spec := "fnExactMayRide", apart := false }
def FnExactMayRideSaid : Prop := fnExactMayRideRow.holds Try.pinned (OpenSpec.ofChange fnExactMayRideSpec)

/-- ITS FALSE NEIGHBOUR: 'it returns false'. Refute it at one input. -/
def fnExactMayRideWrong : ChangeSpec := { name := "fnExactMayRide", fn := fun _ => fun
  | [d1, d2, d3] => { results := [.lit (.bool false)], args := [d1, d2, d3] }
  | _ => none }
def FnExactMayRideWrongFalsely : Prop := fnExactMayRideRow.holds Try.pinned (OpenSpec.ofChange fnExactMayRideWrong)

/-- 'laws.FnExactRidesLeft': WHATEVER THE INPUT: true; the input reads as it did. -/
def fnExactRidesLeftSpec : ChangeSpec := { name := "fnExactRidesLeft", fn := fun _ => fun
  | [d1, d2, d3] => { results := [.lit (.bool true)], args := [d1, d2, d3] }
  | _ => none }
def fnExactRidesLeftRow : OpenClaim := { program := "ytomjnepchffkgaa", sum := "c833e803e12981de9a3f3361831a204aae2d9ab4c259cf088b25b0459014d26c", func := "loop.example/transitfares/laws.FnExactRidesLeft", spec := "fnExactRidesLeft", apart := false }
def FnExactRidesLeftSaid : Prop := fnExactRidesLeftRow.holds Try.pinned (OpenSpec.ofChange fnExactRidesLeftSpec)

/-- ITS FALSE NEIGHBOUR: 'it returns false'. Refute it at one input. -/
def fnExactRidesLeftWrong : ChangeSpec := { name := "fnExactRidesLeft", fn := fun _ => fun
  | [d1, d2, d3] => { results := [.lit (.bool false)], args := [d1, d2, d3] }
  | _ => none }
def FnExactRidesLeftWrongFalsely : Prop := fnExactRidesLeftRow.holds Try.pinned (OpenSpec.ofChange fnExactRidesLeftWrong)

/- THE SECOND FORM. 'bulk': how many values and letters a reading holds, each counted each time it is reached (what is shared counts as often as it is met; a slice's spare places count too). A statement '..UptoSaid' is the law's where the arguments, and the package variables that the reading takes, are together of bulk at most 1048576: NARROWER than '..Said'. Prove '..Said' where nothing that the law and all that it calls make is longer than what came in: it says more and counts as full. Else prove '..UptoSaid'. A law counts once. -/
mutual
def uptoBulk {H : Type} : DataW H → Nat
  | .lit (.string bytes) => bytes.length + 1
  | .lit _ => 1
  | .nil => 1
  | .ptr d => uptoBulk d + 1
  | .slice elems spare => uptoBulkAll elems + uptoBulkAll spare + 1
  | .agg parts => uptoBulkAll parts + 1
  | .iface _ d => uptoBulk d + 1
  | .map entries => uptoBulkEntries entries + 1
  | .held _ => 1
def uptoBulkAll {H : Type} : List (DataW H) → Nat
  | [] => 0
  | d :: r => uptoBulk d + uptoBulkAll r
def uptoBulkEntries {H : Type} : List (Lit × DataW H) → Nat
  | [] => 0
  | x :: r => uptoBulkEntry x + uptoBulkEntries r
def uptoBulkEntry {H : Type} : Lit × DataW H → Nat
  | (.string bytes, d) => bytes.length + uptoBulk d + 1
  | (_, d) => uptoBulk d + 1
 end
def uptoSmall : (H : Type) → List (DataW H) → Bool := fun _ ds => decide (uptoBulkAll ds ≤ 1048576)
def OpenSpec.upto (s : _root_.Go.ChangeSpec) : _root_.Go.OpenSpec := { _root_.Go.OpenSpec.ofChange s with cond := some uptoSmall }

/-- 'laws.FnTrustOf', WHERE WHAT IT READS IS OF BULK AT MOST 1048576: true; the input reads as it did. -/
def fnTrustOfUptoRow : OpenClaim := { program := "ytomjnepchffkgaa", sum := "c833e803e12981de9a3f3361831a204aae2d9ab4c259cf088b25b0459014d26c", func := "loop.example/transitfares/laws.FnTrustOf", spec := "fnTrustOf", apart := false, narrowed := true }
def FnTrustOfUptoSaid : Prop := fnTrustOfUptoRow.holds Try.pinned (OpenSpec.upto fnTrustOfSpec)

/-- 'laws.FnTrustOfFirst', WHERE WHAT IT READS IS OF BULK AT MOST 1048576: true; the input reads as it did. -/
def fnTrustOfFirstUptoRow : OpenClaim := { program := "ytomjnepchffkgaa", sum := "c833e803e12981de9a3f3361831a204aae2d9ab4c259cf088b25b0459014d26c", func := "loop.example/transitfares/laws.FnTrustOfFirst", spec := "fnTrustOfFirst", apart := false, narrowed := true }
def FnTrustOfFirstUptoSaid : Prop := fnTrustOfFirstUptoRow.holds Try.pinned (OpenSpec.upto fnTrustOfFirstSpec)

/-- 'laws.FnMayRide', WHERE WHAT IT READS IS OF BULK AT MOST 1048576: true; the input reads as it did. -/
def fnMayRideUptoRow : OpenClaim := { program := "ytomjnepchffkgaa", sum := "c833e803e12981de9a3f3361831a204aae2d9ab4c259cf088b25b0459014d26c", func := "loop.example/transitfares/laws.FnMayRide", spec := "fnMayRide", apart := false, narrowed := true }
def FnMayRideUptoSaid : Prop := fnMayRideUptoRow.holds Try.pinned (OpenSpec.upto fnMayRideSpec)

/-- 'laws.FnRidesLeft', WHERE WHAT IT READS IS OF BULK AT MOST 1048576: true; the input reads as it did. -/
def fnRidesLeftUptoRow : OpenClaim := { program := "ytomjnepchffkgaa", sum := "c833e803e12981de9a3f3361831a204aae2d9ab4c259cf088b25b0459014d26c", func := "loop.example/transitfares/laws.FnRidesLeft", spec := "fnRidesLeft", apart := false, narrowed := true }
def FnRidesLeftUptoSaid : Prop := fnRidesLeftUptoRow.holds Try.pinned (OpenSpec.upto fnRidesLeftSpec)

/-- 'laws.FnRidesLeftPrice', WHERE WHAT IT READS IS OF BULK AT MOST 1048576: true; the input reads as it did. -/
def fnRidesLeftPriceUptoRow : OpenClaim := { program := "ytomjnepchffkgaa", sum := "c833e803e12981de9a3f3361831a204aae2d9ab4c259cf088b25b0459014d26c", func := "loop.example/transitfares/laws.FnRidesLeftPrice", spec := "fnRidesLeftPrice", apart := false, narrowed := true }
def FnRidesLeftPriceUptoSaid : Prop := fnRidesLeftPriceUptoRow.holds Try.pinned (OpenSpec.upto fnRidesLeftPriceSpec)

/-- 'laws.FnExactTrustOf', WHERE WHAT IT READS IS OF BULK AT MOST 1048576: true; the input reads as it did. -/
def fnExactTrustOfUptoRow : OpenClaim := { program := "ytomjnepchffkgaa", sum := "c833e803e12981de9a3f3361831a204aae2d9ab4c259cf088b25b0459014d26c", func := "loop.example/transitfares/laws.FnExactTrustOf", spec := "fnExactTrustOf", apart := false, narrowed := true }
def FnExactTrustOfUptoSaid : Prop := fnExactTrustOfUptoRow.holds Try.pinned (OpenSpec.upto fnExactTrustOfSpec)

/-- 'laws.FnExactMayRide', WHERE WHAT IT READS IS OF BULK AT MOST 1048576: true; the input reads as it did. -/
def fnExactMayRideUptoRow : OpenClaim := { program := "ytomjnepchffkgaa", sum := "c833e803e12981de9a3f3361831a204aae2d9ab4c259cf088b25b0459014d26c", func := "loop.example/transitfares/laws.FnExactMayRide", spec := "fnExactMayRide", apart := false, narrowed := true }
def FnExactMayRideUptoSaid : Prop := fnExactMayRideUptoRow.holds Try.pinned (OpenSpec.upto fnExactMayRideSpec)

/-- 'laws.FnExactRidesLeft', WHERE WHAT IT READS IS OF BULK AT MOST 1048576: true; the input reads as it did. -/
def fnExactRidesLeftUptoRow : OpenClaim := { program := "ytomjnepchffkgaa", sum := "c833e803e12981de9a3f3361831a204aae2d9ab4c259cf088b25b0459014d26c", func := "loop.example/transitfares/laws.FnExactRidesLeft", spec := "fnExactRidesLeft", apart := false, narrowed := true }
def FnExactRidesLeftUptoSaid : Prop := fnExactRidesLeftUptoRow.holds Try.pinned (OpenSpec.upto fnExactRidesLeftSpec)

end Rows
end Go.Proofs.Ytomjnepchffkgaa
