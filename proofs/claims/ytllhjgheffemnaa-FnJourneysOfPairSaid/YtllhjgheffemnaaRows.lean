/-
  No cell of these rows narrows 'for every input' (looked for: loops, veiled, ifaces, maps, wideKeys, modest, calm, conditions, laid).
  DERIVED. THE GIVEN ROWS OF THIS SEAT. 6 by the template 'for every input the law returns true; each argument reads behind the call as it read before'; 0 by the template 'total and deterministic' (their statements: YtllhjgheffemnaaTotals.lean).
  GIVEN WITH THE SEED: the statements are not yours to turn. If you find one false, say at which input.
  Laid BY PROGRAM, IN A SANDBOX (cutbox-rows.mjs): the forced cells as the released guide's own fill.sh prints them over the translation a841dc7567485d46… (all of the seat's roots in one cut). By AI agents, Wed Nov 11 2026. No macro, syntax, notation, axiom, sorry.
-/
import Derived.Test.YtllhjgheffemnaaChecked
import GoSem.Claim
import GoSem.ClaimJoined
import GoSem.ClaimMapViews
import Derived.JoinedTies
import Derived.KernelRfl
namespace Go.Proofs.Ytllhjgheffemnaa
/- THE CELL 'sum', in the pinned program and in every row, IS THE sha256 OF THE DUMP (.gsa) THAT YtllhjgheffemnaaProg.lean LOADS. Nothing in Lean hashes anything: it is a label: what it is worth is what the hold of that sum in a sandbox is worth. -/
noncomputable def Try.pinned : Pinned := { name := "ytllhjgheffemnaa", sum := "a841dc7567485d461012544dadce041829520f35e32d09023ecd98422ac28a32", checked := Try.checked }
namespace Rows
def none {H : Type} : Left H := { results := [], args := [] }

/-- 'laws.FnJourneysOf': WHATEVER THE INPUT: true; the input reads as it did. -/
def fnJourneysOfSpec : ChangeSpec := { name := "fnJourneysOf", fn := fun _ => fun
  | [d] => { results := [.lit (.bool true)], args := [d] }
  | _ => none }
def fnJourneysOfRow : OpenClaim := { program := "ytllhjgheffemnaa", sum := "a841dc7567485d461012544dadce041829520f35e32d09023ecd98422ac28a32", func := "loop.example/transitfares/laws.FnJourneysOf", spec := "fnJourneysOf", unfollowed := true, recurses := true, apart := false }
def FnJourneysOfSaid : Prop := fnJourneysOfRow.holds Try.pinned (OpenSpec.ofChange fnJourneysOfSpec)

/-- ITS FALSE NEIGHBOUR: 'it returns false'. Refute it at one input. -/
def fnJourneysOfWrong : ChangeSpec := { name := "fnJourneysOf", fn := fun _ => fun
  | [d] => { results := [.lit (.bool false)], args := [d] }
  | _ => none }
def FnJourneysOfWrongFalsely : Prop := fnJourneysOfRow.holds Try.pinned (OpenSpec.ofChange fnJourneysOfWrong)

/-- 'laws.FnJourneysOfOthers': WHATEVER THE INPUT: true; the input reads as it did. -/
def fnJourneysOfOthersSpec : ChangeSpec := { name := "fnJourneysOfOthers", fn := fun _ => fun
  | [d] => { results := [.lit (.bool true)], args := [d] }
  | _ => none }
def fnJourneysOfOthersRow : OpenClaim := { program := "ytllhjgheffemnaa", sum := "a841dc7567485d461012544dadce041829520f35e32d09023ecd98422ac28a32", func := "loop.example/transitfares/laws.FnJourneysOfOthers", spec := "fnJourneysOfOthers", unfollowed := true, recurses := true, apart := false }
def FnJourneysOfOthersSaid : Prop := fnJourneysOfOthersRow.holds Try.pinned (OpenSpec.ofChange fnJourneysOfOthersSpec)

/-- ITS FALSE NEIGHBOUR: 'it returns false'. Refute it at one input. -/
def fnJourneysOfOthersWrong : ChangeSpec := { name := "fnJourneysOfOthers", fn := fun _ => fun
  | [d] => { results := [.lit (.bool false)], args := [d] }
  | _ => none }
def FnJourneysOfOthersWrongFalsely : Prop := fnJourneysOfOthersRow.holds Try.pinned (OpenSpec.ofChange fnJourneysOfOthersWrong)

/-- 'laws.FnJourneysOfTaps': WHATEVER THE INPUT: true; the input reads as it did. -/
def fnJourneysOfTapsSpec : ChangeSpec := { name := "fnJourneysOfTaps", fn := fun _ => fun
  | [d] => { results := [.lit (.bool true)], args := [d] }
  | _ => none }
def fnJourneysOfTapsRow : OpenClaim := { program := "ytllhjgheffemnaa", sum := "a841dc7567485d461012544dadce041829520f35e32d09023ecd98422ac28a32", func := "loop.example/transitfares/laws.FnJourneysOfTaps", spec := "fnJourneysOfTaps", unfollowed := true, recurses := true, apart := false }
def FnJourneysOfTapsSaid : Prop := fnJourneysOfTapsRow.holds Try.pinned (OpenSpec.ofChange fnJourneysOfTapsSpec)

/-- ITS FALSE NEIGHBOUR: 'it returns false'. Refute it at one input. -/
def fnJourneysOfTapsWrong : ChangeSpec := { name := "fnJourneysOfTaps", fn := fun _ => fun
  | [d] => { results := [.lit (.bool false)], args := [d] }
  | _ => none }
def FnJourneysOfTapsWrongFalsely : Prop := fnJourneysOfTapsRow.holds Try.pinned (OpenSpec.ofChange fnJourneysOfTapsWrong)

/-- 'laws.FnJourneysOfPair': WHATEVER THE INPUT: true; the input reads as it did. -/
def fnJourneysOfPairSpec : ChangeSpec := { name := "fnJourneysOfPair", fn := fun _ => fun
  | [d] => { results := [.lit (.bool true)], args := [d] }
  | _ => none }
def fnJourneysOfPairRow : OpenClaim := { program := "ytllhjgheffemnaa", sum := "a841dc7567485d461012544dadce041829520f35e32d09023ecd98422ac28a32", func := "loop.example/transitfares/laws.FnJourneysOfPair", spec := "fnJourneysOfPair", unfollowed := true, recurses := true, apart := false }
def FnJourneysOfPairSaid : Prop := fnJourneysOfPairRow.holds Try.pinned (OpenSpec.ofChange fnJourneysOfPairSpec)

/-- ITS FALSE NEIGHBOUR: 'it returns false'. Refute it at one input. -/
def fnJourneysOfPairWrong : ChangeSpec := { name := "fnJourneysOfPair", fn := fun _ => fun
  | [d] => { results := [.lit (.bool false)], args := [d] }
  | _ => none }
def FnJourneysOfPairWrongFalsely : Prop := fnJourneysOfPairRow.holds Try.pinned (OpenSpec.ofChange fnJourneysOfPairWrong)

/-- 'laws.FnJourneysOfOut': WHATEVER THE INPUT: true; the input reads as it did. -/
def fnJourneysOfOutSpec : ChangeSpec := { name := "fnJourneysOfOut", fn := fun _ => fun
  | [d] => { results := [.lit (.bool true)], args := [d] }
  | _ => none }
def fnJourneysOfOutRow : OpenClaim := { program := "ytllhjgheffemnaa", sum := "a841dc7567485d461012544dadce041829520f35e32d09023ecd98422ac28a32", func := "loop.example/transitfares/laws.FnJourneysOfOut", spec := "fnJourneysOfOut", unfollowed := true, recurses := true, apart := false }
def FnJourneysOfOutSaid : Prop := fnJourneysOfOutRow.holds Try.pinned (OpenSpec.ofChange fnJourneysOfOutSpec)

/-- ITS FALSE NEIGHBOUR: 'it returns false'. Refute it at one input. -/
def fnJourneysOfOutWrong : ChangeSpec := { name := "fnJourneysOfOut", fn := fun _ => fun
  | [d] => { results := [.lit (.bool false)], args := [d] }
  | _ => none }
def FnJourneysOfOutWrongFalsely : Prop := fnJourneysOfOutRow.holds Try.pinned (OpenSpec.ofChange fnJourneysOfOutWrong)

/-- 'laws.FnExactJourneysOf': WHATEVER THE INPUT: true; the input reads as it did. -/
def fnExactJourneysOfSpec : ChangeSpec := { name := "fnExactJourneysOf", fn := fun _ => fun
  | [d1, d2] => { results := [.lit (.bool true)], args := [d1, d2] }
  | _ => none }
def fnExactJourneysOfRow : OpenClaim := { program := "ytllhjgheffemnaa", sum := "a841dc7567485d461012544dadce041829520f35e32d09023ecd98422ac28a32", func := "loop.example/transitfares/laws.FnExactJourneysOf", spec := "fnExactJourneysOf", unfollowed := true, recurses := true, apart := false }
def FnExactJourneysOfSaid : Prop := fnExactJourneysOfRow.holds Try.pinned (OpenSpec.ofChange fnExactJourneysOfSpec)

/-- ITS FALSE NEIGHBOUR: 'it returns false'. Refute it at one input. -/
def fnExactJourneysOfWrong : ChangeSpec := { name := "fnExactJourneysOf", fn := fun _ => fun
  | [d1, d2] => { results := [.lit (.bool false)], args := [d1, d2] }
  | _ => none }
def FnExactJourneysOfWrongFalsely : Prop := fnExactJourneysOfRow.holds Try.pinned (OpenSpec.ofChange fnExactJourneysOfWrong)

/- THE SECOND FORM. 'bulk': how many values and letters a reading holds, each counted each time it is reached (what is shared counts as often as it is met; a slice's spare places count too). A statement '..UptoSaid' is the law's where the arguments, and the package variables that the reading takes, are together of bulk at most 1048576: NARROWER than '..Said'. Prove '..Said' where nothing that the law and all that it calls make is longer than what came in: it says more and counts as full. Else prove '..UptoSaid'. A law counts once. -/
mutual
def uptoBulk {H : Type} : DataW H → Nat
  | .lit (.string bytes) => bytes.length + 1
  | .lit _ => 1
  | .nil => 1
  | .ptr d => uptoBulk d + 1
  | .slice elems spare => uptoBulkAll elems + uptoBulkAll spare + 1
  | .agg parts => uptoBulkAll parts + 1
  | .iface _ d => uptoBulk d + 1
  | .map entries => uptoBulkEntries entries + 1
  | .held _ => 1
def uptoBulkAll {H : Type} : List (DataW H) → Nat
  | [] => 0
  | d :: r => uptoBulk d + uptoBulkAll r
def uptoBulkEntries {H : Type} : List (Lit × DataW H) → Nat
  | [] => 0
  | x :: r => uptoBulkEntry x + uptoBulkEntries r
def uptoBulkEntry {H : Type} : Lit × DataW H → Nat
  | (.string bytes, d) => bytes.length + uptoBulk d + 1
  | (_, d) => uptoBulk d + 1
 end
def uptoSmall : (H : Type) → List (DataW H) → Bool := fun _ ds => decide (uptoBulkAll ds ≤ 1048576)
def OpenSpec.upto (s : _root_.Go.ChangeSpec) : _root_.Go.OpenSpec := { _root_.Go.OpenSpec.ofChange s with cond := some uptoSmall }

/-- 'laws.FnJourneysOf', WHERE WHAT IT READS IS OF BULK AT MOST 1048576: true; the input reads as it did. -/
def fnJourneysOfUptoRow : OpenClaim := { program := "ytllhjgheffemnaa", sum := "a841dc7567485d461012544dadce041829520f35e32d09023ecd98422ac28a32", func := "loop.example/transitfares/laws.FnJourneysOf", spec := "fnJourneysOf", unfollowed := true, recurses := true, apart := false, narrowed := true }
def FnJourneysOfUptoSaid : Prop := fnJourneysOfUptoRow.holds Try.pinned (OpenSpec.upto fnJourneysOfSpec)

/-- 'laws.FnJourneysOfOthers', WHERE WHAT IT READS IS OF BULK AT MOST 1048576: true; the input reads as it did. -/
def fnJourneysOfOthersUptoRow : OpenClaim := { program := "ytllhjgheffemnaa", sum := "a841dc7567485d461012544dadce041829520f35e32d09023ecd98422ac28a32", func := "loop.example/transitfares/laws.FnJourneysOfOthers", spec := "fnJourneysOfOthers", unfollowed := true, recurses := true, apart := false, narrowed := true }
def FnJourneysOfOthersUptoSaid : Prop := fnJourneysOfOthersUptoRow.holds Try.pinned (OpenSpec.upto fnJourneysOfOthersSpec)

/-- 'laws.FnJourneysOfTaps', WHERE WHAT IT READS IS OF BULK AT MOST 1048576: true; the input reads as it did. -/
def fnJourneysOfTapsUptoRow : OpenClaim := { program := "ytllhjgheffemnaa", sum := "a841dc7567485d461012544dadce041829520f35e32d09023ecd98422ac28a32", func := "loop.example/transitfares/laws.FnJourneysOfTaps", spec := "fnJourneysOfTaps", unfollowed := true, recurses := true, apart := false, narrowed := true }
def FnJourneysOfTapsUptoSaid : Prop := fnJourneysOfTapsUptoRow.holds Try.pinned (OpenSpec.upto fnJourneysOfTapsSpec)

/-- 'laws.FnJourneysOfPair', WHERE WHAT IT READS IS OF BULK AT MOST 1048576: true; the input reads as it did. -/
def fnJourneysOfPairUptoRow : OpenClaim := { program := "ytllhjgheffemnaa", sum := "a841dc7567485d461012544dadce041829520f35e32d09023ecd98422ac28a32", func := "loop.example/transitfares/laws.FnJourneysOfPair", spec := "fnJourneysOfPair", unfollowed := true, recurses := true, apart := false, narrowed := true }
def FnJourneysOfPairUptoSaid : Prop := fnJourneysOfPairUptoRow.holds Try.pinned (OpenSpec.upto fnJourneysOfPairSpec)

/-- 'laws.FnJourneysOfOut', WHERE WHAT IT READS IS OF BULK AT MOST 1048576: true; the input reads as it did. -/
def fnJourneysOfOutUptoRow : OpenClaim := { program := "ytllhjgheffemnaa", sum := "a841dc7567485d461012544dadce041829520f35e32d09023ecd98422ac28a32", func := "loop.example/transitfares/laws.FnJourneysOfOut", spec := "fnJourneysOfOut", unfollowed := true, recurses := true, apart := false, narrowed := true }
def FnJourneysOfOutUptoSaid : Prop := fnJourneysOfOutUptoRow.holds Try.pinned (OpenSpec.upto fnJourneysOfOutSpec)

/-- 'laws.FnExactJourneysOf', WHERE WHAT IT READS IS OF BULK AT MOST 1048576: true; the input reads as it did. -/
def fnExactJourneysOfUptoRow : OpenClaim := { program := "ytllhjgheffemnaa", sum := "a841dc7567485d461012544dadce041829520f35e32d09023ecd98422ac28a32", func := "loop.example/transitfares/laws.FnExactJourneysOf", spec := "fnExactJourneysOf", unfollowed := true, recurses := true, apart := false, narrowed := true }
def FnExactJourneysOfUptoSaid : Prop := fnExactJourneysOfUptoRow.holds Try.pinned (OpenSpec.upto fnExactJourneysOfSpec)

end Rows
end Go.Proofs.Ytllhjgheffemnaa
