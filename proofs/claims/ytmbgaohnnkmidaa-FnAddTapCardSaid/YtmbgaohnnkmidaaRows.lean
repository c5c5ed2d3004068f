/-
  No cell of these rows narrows 'for every input' (looked for: loops, veiled, ifaces, maps, wideKeys, modest, calm, conditions, laid).
  DERIVED. THE GIVEN ROWS OF THIS SEAT. 14 by the template 'for every input the law returns true; each argument reads behind the call as it read before'; 0 by the template 'total and deterministic' (their statements: YtmbgaohnnkmidaaTotals.lean).
  GIVEN WITH THE SEED: the statements are not yours to turn. If you find one false, say at which input.
  Laid BY PROGRAM, IN A SANDBOX (cutbox-rows.mjs): the forced cells as the released guide's own fill.sh prints them over the translation 15a81afcf9f34cd5… (all of the seat's roots in one cut). By AI agents, Wed Nov 11 2026. No macro, syntax, notation, axiom, sorry.
-/
import Derived.Test.YtmbgaohnnkmidaaChecked
import GoSem.Claim
import GoSem.ClaimJoined
import GoSem.ClaimMapViews
import Derived.JoinedTies
import Derived.KernelRfl
namespace Go.Proofs.Ytmbgaohnnkmidaa
/- THE CELL 'sum', in the pinned program and in every row, IS THE sha256 OF THE DUMP (.gsa) THAT YtmbgaohnnkmidaaProg.lean LOADS. Nothing in Lean hashes anything: it is a label: what it is worth is what the hold of that sum in a sandbox is worth. -/
noncomputable def Try.pinned : Pinned := { name := "ytmbgaohnnkmidaa", sum := "15a81afcf9f34cd5f7eb46760889d906d46a6de120a9f85b9b2427923ee2c24e", checked := Try.checked }
namespace Rows
def none {H : Type} : Left H := { results := [], args := [] }

/-- 'laws.FnExactAddTap': WHATEVER THE INPUT: true; the input reads as it did. -/
def fnExactAddTapSpec : ChangeSpec := { name := "fnExactAddTap", fn := fun _ => fun
  | [d1, d2] => { results := [.lit (.bool true)], args := [d1, d2] }
  | _ => none }
def fnExactAddTapRow : OpenClaim := { program := "ytmbgaohnnkmidaa", sum := "15a81afcf9f34cd5f7eb46760889d906d46a6de120a9f85b9b2427923ee2c24e", func := "loop.example/transitfares/laws.FnExactAddTap", spec := "fnExactAddTap", inPlace := ["slices.overlaps[loop.example/transitfares/impl.Tap]"], unfollowed := true, recurses := true, apart := false }
def FnExactAddTapSaid : Prop := fnExactAddTapRow.holds Try.pinned (OpenSpec.ofChange fnExactAddTapSpec)

/-- ITS FALSE NEIGHBOUR: 'it returns false'. Refute it at one input. -/
def fnExactAddTapWrong : ChangeSpec := { name := "fnExactAddTap", fn := fun _ => fun
  | [d1, d2] => { results := [.lit (.bool false)], args := [d1, d2] }
  | _ => none }
def FnExactAddTapWrongFalsely : Prop := fnExactAddTapRow.holds Try.pinned (OpenSpec.ofChange fnExactAddTapWrong)

/-- 'laws.FnExactCollectTaps': WHATEVER THE INPUT: true; the input reads as it did. -/
def fnExactCollectTapsSpec : ChangeSpec := { name := "fnExactCollectTaps", fn := fun _ => fun
  | [d] => { results := [.lit (.bool true)], args := [d] }
  | _ => none }
def fnExactCollectTapsRow : OpenClaim := { program := "ytmbgaohnnkmidaa", sum := "15a81afcf9f34cd5f7eb46760889d906d46a6de120a9f85b9b2427923ee2c24e", func := "loop.example/transitfares/laws.FnExactCollectTaps", spec := "fnExactCollectTaps", inPlace := ["slices.overlaps[loop.example/transitfares/impl.Tap]"], unfollowed := true, recurses := true, apart := false }
def FnExactCollectTapsSaid : Prop := fnExactCollectTapsRow.holds Try.pinned (OpenSpec.ofChange fnExactCollectTapsSpec)

/-- ITS FALSE NEIGHBOUR: 'it returns false'. Refute it at one input. -/
def fnExactCollectTapsWrong : ChangeSpec := { name := "fnExactCollectTaps", fn := fun _ => fun
  | [d] => { results := [.lit (.bool false)], args := [d] }
  | _ => none }
def FnExactCollectTapsWrongFalsely : Prop := fnExactCollectTapsRow.holds Try.pinned (OpenSpec.ofChange fnExactCollectTapsWrong)

/-- 'laws.FnAddTap': WHATEVER THE INPUT: true; the input reads as it did. -/
def fnAddTapSpec : ChangeSpec := { name := "fnAddTap", fn := fun _ => fun
  | [d] => { results := [.lit (.bool true)], args := [d] }
  | _ => none }
def fnAddTapRow : OpenClaim := { program := "ytmbgaohnnkmidaa", sum := "15a81afcf9f34cd5f7eb46760889d906d46a6de120a9f85b9b2427923ee2c24e", func := "loop.example/transitfares/laws.FnAddTap", spec := "fnAddTap", inPlace := ["slices.overlaps[loop.example/transitfares/impl.Tap]"], unfollowed := true, recurses := true, apart := false }
def FnAddTapSaid : Prop := fnAddTapRow.holds Try.pinned (OpenSpec.ofChange fnAddTapSpec)

/-- ITS FALSE NEIGHBOUR: 'it returns false'. Refute it at one input. -/
def fnAddTapWrong : ChangeSpec := { name := "fnAddTap", fn := fun _ => fun
  | [d] => { results := [.lit (.bool false)], args := [d] }
  | _ => none }
def FnAddTapWrongFalsely : Prop := fnAddTapRow.holds Try.pinned (OpenSpec.ofChange fnAddTapWrong)

/-- 'laws.FnAddTapOrder': WHATEVER THE INPUT: true; the input reads as it did. -/
def fnAddTapOrderSpec : ChangeSpec := { name := "fnAddTapOrder", fn := fun _ => fun
  | [d] => { results := [.lit (.bool true)], args := [d] }
  | _ => none }
def fnAddTapOrderRow : OpenClaim := { program := "ytmbgaohnnkmidaa", sum := "15a81afcf9f34cd5f7eb46760889d906d46a6de120a9f85b9b2427923ee2c24e", func := "loop.example/transitfares/laws.FnAddTapOrder", spec := "fnAddTapOrder", inPlace := ["slices.overlaps[loop.example/transitfares/impl.Tap]"], unfollowed := true, recurses := true, apart := false }
def FnAddTapOrderSaid : Prop := fnAddTapOrderRow.holds Try.pinned (OpenSpec.ofChange fnAddTapOrderSpec)

/-- ITS FALSE NEIGHBOUR: 'it returns false'. Refute it at one input. -/
def fnAddTapOrderWrong : ChangeSpec := { name := "fnAddTapOrder", fn := fun _ => fun
  | [d] => { results := [.lit (.bool false)], args := [d] }
  | _ => none }
def FnAddTapOrderWrongFalsely : Prop := fnAddTapOrderRow.holds Try.pinned (OpenSpec.ofChange fnAddTapOrderWrong)

/-- 'laws.FnAddTapCard': WHATEVER THE INPUT: true; the input reads as it did. -/
def fnAddTapCardSpec : ChangeSpec := { name := "fnAddTapCard", fn := fun _ => fun
  | [d] => { results := [.lit (.bool true)], args := [d] }
  | _ => none }
def fnAddTapCardRow : OpenClaim := { program := "ytmbgaohnnkmidaa", sum := "15a81afcf9f34cd5f7eb46760889d906d46a6de120a9f85b9b2427923ee2c24e", func := "loop.example/transitfares/laws.FnAddTapCard", spec := "fnAddTapCard", inPlace := ["slices.overlaps[loop.example/transitfares/impl.Tap]"], unfollowed := true, recurses := true, apart := false }
def FnAddTapCardSaid : Prop := fnAddTapCardRow.holds Try.pinned (OpenSpec.ofChange fnAddTapCardSpec)

/-- ITS FALSE NEIGHBOUR: 'it returns false'. Refute it at one input. -/
def fnAddTapCardWrong : ChangeSpec := { name := "fnAddTapCard", fn := fun _ => fun
  | [d] => { results := [.lit (.bool false)], args := [d] }
  | _ => none }
def FnAddTapCardWrongFalsely : Prop := fnAddTapCardRow.holds Try.pinned (OpenSpec.ofChange fnAddTapCardWrong)

/-- 'laws.FnCollectTaps': WHATEVER THE INPUT: true; the input reads as it did. -/
def fnCollectTapsSpec : ChangeSpec := { name := "fnCollectTaps", fn := fun _ => fun
  | [d] => { results := [.lit (.bool true)], args := [d] }
  | _ => none }
def fnCollectTapsRow : OpenClaim := { program := "ytmbgaohnnkmidaa", sum := "15a81afcf9f34cd5f7eb46760889d906d46a6de120a9f85b9b2427923ee2c24e", func := "loop.example/transitfares/laws.FnCollectTaps", spec := "fnCollectTaps", inPlace := ["slices.overlaps[loop.example/transitfares/impl.Tap]"], unfollowed := true, recurses := true, apart := false }
def FnCollectTapsSaid : Prop := fnCollectTapsRow.holds Try.pinned (OpenSpec.ofChange fnCollectTapsSpec)

/-- ITS FALSE NEIGHBOUR: 'it returns false'. Refute it at one input. -/
def fnCollectTapsWrong : ChangeSpec := { name := "fnCollectTaps", fn := fun _ => fun
  | [d] => { results := [.lit (.bool false)], args := [d] }
  | _ => none }
def FnCollectTapsWrongFalsely : Prop := fnCollectTapsRow.holds Try.pinned (OpenSpec.ofChange fnCollectTapsWrong)

/-- 'laws.FnCollectTapsReverse': WHATEVER THE INPUT: true; the input reads as it did. -/
def fnCollectTapsReverseSpec : ChangeSpec := { name := "fnCollectTapsReverse", fn := fun _ => fun
  | [d] => { results := [.lit (.bool true)], args := [d] }
  | _ => none }
def fnCollectTapsReverseRow : OpenClaim := { program := "ytmbgaohnnkmidaa", sum := "15a81afcf9f34cd5f7eb46760889d906d46a6de120a9f85b9b2427923ee2c24e", func := "loop.example/transitfares/laws.FnCollectTapsReverse", spec := "fnCollectTapsReverse", inPlace := ["slices.overlaps[loop.example/transitfares/impl.Tap]"], unfollowed := true, recurses := true, apart := false }
def FnCollectTapsReverseSaid : Prop := fnCollectTapsReverseRow.holds Try.pinned (OpenSpec.ofChange fnCollectTapsReverseSpec)

/-- ITS FALSE NEIGHBOUR: 'it returns false'. Refute it at one input. -/
def fnCollectTapsReverseWrong : ChangeSpec := { name := "fnCollectTapsReverse", fn := fun _ => fun
  | [d] => { results := [.lit (.bool false)], args := [d] }
  | _ => none }
def FnCollectTapsReverseWrongFalsely : Prop := fnCollectTapsReverseRow.holds Try.pinned (OpenSpec.ofChange fnCollectTapsReverseWrong)

/-- 'laws.FnCollectTapsTwice': WHATEVER THE INPUT: true; the input reads as it did. -/
def fnCollectTapsTwiceSpec : ChangeSpec := { name := "fnCollectTapsTwice", fn := fun _ => fun
  | [d] => { results := [.lit (.bool true)], args := [d] }
  | _ => none }
def fnCollectTapsTwiceRow : OpenClaim := { program := "ytmbgaohnnkmidaa", sum := "15a81afcf9f34cd5f7eb46760889d906d46a6de120a9f85b9b2427923ee2c24e", func := "loop.example/transitfares/laws.FnCollectTapsTwice", spec := "fnCollectTapsTwice", inPlace := ["slices.overlaps[loop.example/transitfares/impl.Tap]"], unfollowed := true, recurses := true, apart := false }
def FnCollectTapsTwiceSaid : Prop := fnCollectTapsTwiceRow.holds Try.pinned (OpenSpec.ofChange fnCollectTapsTwiceSpec)

/-- ITS FALSE NEIGHBOUR: 'it returns false'. Refute it at one input. -/
def fnCollectTapsTwiceWrong : ChangeSpec := { name := "fnCollectTapsTwice", fn := fun _ => fun
  | [d] => { results := [.lit (.bool false)], args := [d] }
  | _ => none }
def FnCollectTapsTwiceWrongFalsely : Prop := fnCollectTapsTwiceRow.holds Try.pinned (OpenSpec.ofChange fnCollectTapsTwiceWrong)

/-- 'laws.FnExactJourneysOf': WHATEVER THE INPUT: true; the input reads as it did. -/
def fnExactJourneysOfSpec : ChangeSpec := { name := "fnExactJourneysOf", fn := fun _ => fun
  | [d1, d2] => { results := [.lit (.bool true)], args := [d1, d2] }
  | _ => none }
def fnExactJourneysOfRow : OpenClaim := { program := "ytmbgaohnnkmidaa", sum := "15a81afcf9f34cd5f7eb46760889d906d46a6de120a9f85b9b2427923ee2c24e", func := "loop.example/transitfares/laws.FnExactJourneysOf", spec := "fnExactJourneysOf", unfollowed := true, recurses := true, apart := false }
def FnExactJourneysOfSaid : Prop := fnExactJourneysOfRow.holds Try.pinned (OpenSpec.ofChange fnExactJourneysOfSpec)

/-- ITS FALSE NEIGHBOUR: 'it returns false'. Refute it at one input. -/
def fnExactJourneysOfWrong : ChangeSpec := { name := "fnExactJourneysOf", fn := fun _ => fun
  | [d1, d2] => { results := [.lit (.bool false)], args := [d1, d2] }
  | _ => none }
def FnExactJourneysOfWrongFalsely : Prop := fnExactJourneysOfRow.holds Try.pinned (OpenSpec.ofChange fnExactJourneysOfWrong)

/-- 'laws.FnJourneysOf': WHATEVER THE INPUT: true; the input reads as it did. -/
def fnJourneysOfSpec : ChangeSpec := { name := "fnJourneysOf", fn := fun _ => fun
  | [d] => { results := [.lit (.bool true)], args := [d] }
  | _ => none }
def fnJourneysOfRow : OpenClaim := { program := "ytmbgaohnnkmidaa", sum := "15a81afcf9f34cd5f7eb46760889d906d46a6de120a9f85b9b2427923ee2c24e", func := "loop.example/transitfares/laws.FnJourneysOf", spec := "fnJourneysOf", unfollowed := true, recurses := true, apart := false }
def FnJourneysOfSaid : Prop := fnJourneysOfRow.holds Try.pinned (OpenSpec.ofChange fnJourneysOfSpec)

/-- ITS FALSE NEIGHBOUR: 'it returns false'. Refute it at one input. -/
def fnJourneysOfWrong : ChangeSpec := { name := "fnJourneysOf", fn := fun _ => fun
  | [d] => { results := [.lit (.bool false)], args := [d] }
  | _ => none }
def FnJourneysOfWrongFalsely : Prop := fnJourneysOfRow.holds Try.pinned (OpenSpec.ofChange fnJourneysOfWrong)

/-- 'laws.FnJourneysOfOthers': WHATEVER THE INPUT: true; the input reads as it did. -/
def fnJourneysOfOthersSpec : ChangeSpec := { name := "fnJourneysOfOthers", fn := fun _ => fun
  | [d] => { results := [.lit (.bool true)], args := [d] }
  | _ => none }
def fnJourneysOfOthersRow : OpenClaim := { program := "ytmbgaohnnkmidaa", sum := "15a81afcf9f34cd5f7eb46760889d906d46a6de120a9f85b9b2427923ee2c24e", func := "loop.example/transitfares/laws.FnJourneysOfOthers", spec := "fnJourneysOfOthers", unfollowed := true, recurses := true, apart := false }
def FnJourneysOfOthersSaid : Prop := fnJourneysOfOthersRow.holds Try.pinned (OpenSpec.ofChange fnJourneysOfOthersSpec)

/-- ITS FALSE NEIGHBOUR: 'it returns false'. Refute it at one input. -/
def fnJourneysOfOthersWrong : ChangeSpec := { name := "fnJourneysOfOthers", fn := fun _ => fun
  | [d] => { results := [.lit (.bool false)], args := [d] }
  | _ => none }
def FnJourneysOfOthersWrongFalsely : Prop := fnJourneysOfOthersRow.holds Try.pinned (OpenSpec.ofChange fnJourneysOfOthersWrong)

/-- 'laws.FnJourneysOfTaps': WHATEVER THE INPUT: true; the input reads as it did. -/
def fnJourneysOfTapsSpec : ChangeSpec := { name := "fnJourneysOfTaps", fn := fun _ => fun
  | [d] => { results := [.lit (.bool true)], args := [d] }
  | _ => none }
def fnJourneysOfTapsRow : OpenClaim := { program := "ytmbgaohnnkmidaa", sum := "15a81afcf9f34cd5f7eb46760889d906d46a6de120a9f85b9b2427923ee2c24e", func := "loop.example/transitfares/laws.FnJourneysOfTaps", spec := "fnJourneysOfTaps", unfollowed := true, recurses := true, apart := false }
def FnJourneysOfTapsSaid : Prop := fnJourneysOfTapsRow.holds Try.pinned (OpenSpec.ofChange fnJourneysOfTapsSpec)

/-- ITS FALSE NEIGHBOUR: 'it returns false'. Refute it at one input. -/
def fnJourneysOfTapsWrong : ChangeSpec := { name := "fnJourneysOfTaps", fn := fun _ => fun
  | [d] => { results := [.lit (.bool false)], args := [d] }
  | _ => none }
def FnJourneysOfTapsWrongFalsely : Prop := fnJourneysOfTapsRow.holds Try.pinned (OpenSpec.ofChange fnJourneysOfTapsWrong)

/-- 'laws.FnJourneysOfPair': WHATEVER THE INPUT: true; the input reads as it did. -/
def fnJourneysOfPairSpec : ChangeSpec := { name := "fnJourneysOfPair", fn := fun _ => fun
  | [d] => { results := [.lit (.bool true)], args := [d] }
  | _ => none }
def fnJourneysOfPairRow : OpenClaim := { program := "ytmbgaohnnkmidaa", sum := "15a81afcf9f34cd5f7eb46760889d906d46a6de120a9f85b9b2427923ee2c24e", func := "loop.example/transitfares/laws.FnJourneysOfPair", spec := "fnJourneysOfPair", unfollowed := true, recurses := true, apart := false }
def FnJourneysOfPairSaid : Prop := fnJourneysOfPairRow.holds Try.pinned (OpenSpec.ofChange fnJourneysOfPairSpec)

/-- ITS FALSE NEIGHBOUR: 'it returns false'. Refute it at one input. -/
def fnJourneysOfPairWrong : ChangeSpec := { name := "fnJourneysOfPair", fn := fun _ => fun
  | [d] => { results := [.lit (.bool false)], args := [d] }
  | _ => none }
def FnJourneysOfPairWrongFalsely : Prop := fnJourneysOfPairRow.holds Try.pinned (OpenSpec.ofChange fnJourneysOfPairWrong)

/-- 'laws.FnJourneysOfOut': WHATEVER THE INPUT: true; the input reads as it did. -/
def fnJourneysOfOutSpec : ChangeSpec := { name := "fnJourneysOfOut", fn := fun _ => fun
  | [d] => { results := [.lit (.bool true)], args := [d] }
  | _ => none }
def fnJourneysOfOutRow : OpenClaim := { program := "ytmbgaohnnkmidaa", sum := "15a81afcf9f34cd5f7eb46760889d906d46a6de120a9f85b9b2427923ee2c24e", func := "loop.example/transitfares/laws.FnJourneysOfOut", spec := "fnJourneysOfOut", unfollowed := true, recurses := true, apart := false }
def FnJourneysOfOutSaid : Prop := fnJourneysOfOutRow.holds Try.pinned (OpenSpec.ofChange fnJourneysOfOutSpec)

/-- ITS FALSE NEIGHBOUR: 'it returns false'. Refute it at one input. -/
def fnJourneysOfOutWrong : ChangeSpec := { name := "fnJourneysOfOut", fn := fun _ => fun
  | [d] => { results := [.lit (.bool false)], args := [d] }
  | _ => none }
def FnJourneysOfOutWrongFalsely : Prop := fnJourneysOfOutRow.holds Try.pinned (OpenSpec.ofChange fnJourneysOfOutWrong)

/- THE SECOND FORM. 'bulk': how many values and letters a reading holds, each counted each time it is reached (what is shared counts as often as it is met; a slice's spare places count too). A statement '..UptoSaid' is the law's where the arguments, and the package variables that the reading takes, are together of bulk at most 1048576: NARROWER than '..Said'. Prove '..Said' where nothing that the law and all that it calls make is longer than what came in: it says more and counts as full. Else prove '..UptoSaid'. A law counts once. -/
mutual
def uptoBulk {H : Type} : DataW H → Nat
  | .lit (.string bytes) => bytes.length + 1
  | .lit _ => 1
  | .nil => 1
  | .ptr d => uptoBulk d + 1
  | .slice elems spare => uptoBulkAll elems + uptoBulkAll spare + 1
  | .agg parts => uptoBulkAll parts + 1
  | .iface _ d => uptoBulk d + 1
  | .map entries => uptoBulkEntries entries + 1
  | .held _ => 1
def uptoBulkAll {H : Type} : List (DataW H) → Nat
  | [] => 0
  | d :: r => uptoBulk d + uptoBulkAll r
def uptoBulkEntries {H : Type} : List (Lit × DataW H) → Nat
  | [] => 0
  | x :: r => uptoBulkEntry x + uptoBulkEntries r
def uptoBulkEntry {H : Type} : Lit × DataW H → Nat
  | (.string bytes, d) => bytes.length + uptoBulk d + 1
  | (_, d) => uptoBulk d + 1
 end
def uptoSmall : (H : Type) → List (DataW H) → Bool := fun _ ds => decide (uptoBulkAll ds ≤ 1048576)
def OpenSpec.upto (s : _root_.Go.ChangeSpec) : _root_.Go.OpenSpec := { _root_.Go.OpenSpec.ofChange s with cond := some uptoSmall }

/-- 'laws.FnExactAddTap', WHERE WHAT IT READS IS OF BULK AT MOST 1048576: true; the input reads as it did. -/
def fnExactAddTapUptoRow : OpenClaim := { program := "ytmbgaohnnkmidaa", sum := "15a81afcf9f34cd5f7eb46760889d906d46a6de120a9f85b9b2427923ee2c24e", func := "loop.example/transitfares/laws.FnExactAddTap", spec := "fnExactAddTap", inPlace := ["slices.overlaps[loop.example/transitfares/impl.Tap]"], unfollowed := true, recurses := true, apart := false, narrowed := true }
def FnExactAddTapUptoSaid : Prop := fnExactAddTapUptoRow.holds Try.pinned (OpenSpec.upto fnExactAddTapSpec)

/-- 'laws.FnExactCollectTaps', WHERE WHAT IT READS IS OF BULK AT MOST 1048576: true; the input reads as it did. -/
def fnExactCollectTapsUptoRow : OpenClaim := { program := "ytmbgaohnnkmidaa", sum := "15a81afcf9f34cd5f7eb46760889d906d46a6de120a9f85b9b2427923ee2c24e", func := "loop.example/transitfares/laws.FnExactCollectTaps", spec := "fnExactCollectTaps", inPlace := ["slices.overlaps[loop.example/transitfares/impl.Tap]"], unfollowed := true, recurses := true, apart := false, narrowed := true }
def FnExactCollectTapsUptoSaid : Prop := fnExactCollectTapsUptoRow.holds Try.pinned (OpenSpec.upto fnExactCollectTapsSpec)

/-- 'laws.FnAddTap', WHERE WHAT IT READS IS OF BULK AT MOST 1048576: true; the input reads as it did. -/
def fnAddTapUptoRow : OpenClaim := { program := "ytmbgaohnnkmidaa", sum := "15a81afcf9f34cd5f7eb46760889d906d46a6de120a9f85b9b2427923ee2c24e", func := "loop.example/transitfares/laws.FnAddTap", spec := "fnAddTap", inPlace := ["slices.overlaps[loop.example/transitfares/impl.Tap]"], unfollowed := true, recurses := true, apart := false, narrowed := true }
def FnAddTapUptoSaid : Prop := fnAddTapUptoRow.holds Try.pinned (OpenSpec.upto fnAddTapSpec)

/-- 'laws.FnAddTapOrder', WHERE WHAT IT READS IS OF BULK AT MOST 1048576: true; the input reads as it did. -/
def fnAddTapOrderUptoRow : OpenClaim := { program := "ytmbgaohnnkmidaa", sum := "15a81afcf9f34cd5f7eb46760889d906d46a6de120a9f85b9b2427923ee2c24e", func := "loop.example/transitfares/laws.FnAddTapOrder", spec := "fnAddTapOrder", inPlace := ["slices.overlaps[loop.example/transitfares/impl.Tap]"], unfollowed := true, recurses := true, apart := false, narrowed := true }
def FnAddTapOrderUptoSaid : Prop := fnAddTapOrderUptoRow.holds Try.pinned (OpenSpec.upto fnAddTapOrderSpec)

/-- 'laws.FnAddTapCard', WHERE WHAT IT READS IS OF BULK AT MOST 1048576: true; the input reads as it did. -/
def fnAddTapCardUptoRow : OpenClaim := { program := "ytmbgaohnnkmidaa", sum := "15a81afcf9f34cd5f7eb46760889d906d46a6de120a9f85b9b2427923ee2c24e", func := "loop.example/transitfares/laws.FnAddTapCard", spec := "fnAddTapCard", inPlace := ["slices.overlaps[loop.example/transitfares/impl.Tap]"], unfollowed := true, recurses := true, apart := false, narrowed := true }
def FnAddTapCardUptoSaid : Prop := fnAddTapCardUptoRow.holds Try.pinned (OpenSpec.upto fnAddTapCardSpec)

/-- 'laws.FnCollectTaps', WHERE WHAT IT READS IS OF BULK AT MOST 1048576: true; the input reads as it did. -/
def fnCollectTapsUptoRow : OpenClaim := { program := "ytmbgaohnnkmidaa", sum := "15a81afcf9f34cd5f7eb46760889d906d46a6de120a9f85b9b2427923ee2c24e", func := "loop.example/transitfares/laws.FnCollectTaps", spec := "fnCollectTaps", inPlace := ["slices.overlaps[loop.example/transitfares/impl.Tap]"], unfollowed := true, recurses := true, apart := false, narrowed := true }
def FnCollectTapsUptoSaid : Prop := fnCollectTapsUptoRow.holds Try.pinned (OpenSpec.upto fnCollectTapsSpec)

/-- 'laws.FnCollectTapsReverse', WHERE WHAT IT READS IS OF BULK AT MOST 1048576: true; the input reads as it did. -/
def fnCollectTapsReverseUptoRow : OpenClaim := { program := "ytmbgaohnnkmidaa", sum := "15a81afcf9f34cd5f7eb46760889d906d46a6de120a9f85b9b2427923ee2c24e", func := "loop.example/transitfares/laws.FnCollectTapsReverse", spec := "fnCollectTapsReverse", inPlace := ["slices.overlaps[loop.example/transitfares/impl.Tap]"], unfollowed := true, recurses := true, apart := false, narrowed := true }
def FnCollectTapsReverseUptoSaid : Prop := fnCollectTapsReverseUptoRow.holds Try.pinned (OpenSpec.upto fnCollectTapsReverseSpec)

/-- 'laws.FnCollectTapsTwice', WHERE WHAT IT READS IS OF BULK AT MOST 1048576: true; the input reads as it did. -/
def fnCollectTapsTwiceUptoRow : OpenClaim := { program := "ytmbgaohnnkmidaa", sum := "15a81afcf9f34cd5f7eb46760889d906d46a6de120a9f85b9b2427923ee2c24e", func := "loop.example/transitfares/laws.FnCollectTapsTwice", spec := "fnCollectTapsTwice", inPlace := ["slices.overlaps[loop.example/transitfares/impl.Tap]"], unfollowed := true, recurses := true, apart := false, narrowed := true }
def FnCollectTapsTwiceUptoSaid : Prop := fnCollectTapsTwiceUptoRow.holds Try.pinned (OpenSpec.upto fnCollectTapsTwiceSpec)

/-- 'laws.FnExactJourneysOf', WHERE WHAT IT READS IS OF BULK AT MOST 1048576: true; the input reads as it did. -/
def fnExactJourneysOfUptoRow : OpenClaim := { program := "ytmbgaohnnkmidaa", sum := "15a81afcf9f34cd5f7eb46760889d906d46a6de120a9f85b9b2427923ee2c24e", func := "loop.example/transitfares/laws.FnExactJourneysOf", spec := "fnExactJourneysOf", unfollowed := true, recurses := true, apart := false, narrowed := true }
def FnExactJourneysOfUptoSaid : Prop := fnExactJourneysOfUptoRow.holds Try.pinned (OpenSpec.upto fnExactJourneysOfSpec)

/-- 'laws.FnJourneysOf', WHERE WHAT IT READS IS OF BULK AT MOST 1048576: true; the input reads as it did. -/
def fnJourneysOfUptoRow : OpenClaim := { program := "ytmbgaohnnkmidaa", sum := "15a81afcf9f34cd5f7eb46760889d906d46a6de120a9f85b9b2427923ee2c24e", func := "loop.example/transitfares/laws.FnJourneysOf", spec := "fnJourneysOf", unfollowed := true, recurses := true, apart := false, narrowed := true }
def FnJourneysOfUptoSaid : Prop := fnJourneysOfUptoRow.holds Try.pinned (OpenSpec.upto fnJourneysOfSpec)

/-- 'laws.FnJourneysOfOthers', WHERE WHAT IT READS IS OF BULK AT MOST 1048576: true; the input reads as it did. -/
def fnJourneysOfOthersUptoRow : OpenClaim := { program := "ytmbgaohnnkmidaa", sum := "15a81afcf9f34cd5f7eb46760889d906d46a6de120a9f85b9b2427923ee2c24e", func := "loop.example/transitfares/laws.FnJourneysOfOthers", spec := "fnJourneysOfOthers", unfollowed := true, recurses := true, apart := false, narrowed := true }
def FnJourneysOfOthersUptoSaid : Prop := fnJourneysOfOthersUptoRow.holds Try.pinned (OpenSpec.upto fnJourneysOfOthersSpec)

/-- 'laws.FnJourneysOfTaps', WHERE WHAT IT READS IS OF BULK AT MOST 1048576: true; the input reads as it did. -/
def fnJourneysOfTapsUptoRow : OpenClaim := { program := "ytmbgaohnnkmidaa", sum := "15a81afcf9f34cd5f7eb46760889d906d46a6de120a9f85b9b2427923ee2c24e", func := "loop.example/transitfares/laws.FnJourneysOfTaps", spec := "fnJourneysOfTaps", unfollowed := true, recurses := true, apart := false, narrowed := true }
def FnJourneysOfTapsUptoSaid : Prop := fnJourneysOfTapsUptoRow.holds Try.pinned (OpenSpec.upto fnJourneysOfTapsSpec)

/-- 'laws.FnJourneysOfPair', WHERE WHAT IT READS IS OF BULK AT MOST 1048576: true; the input reads as it did. -/
def fnJourneysOfPairUptoRow : OpenClaim := { program := "ytmbgaohnnkmidaa", sum := "15a81afcf9f34cd5f7eb46760889d906d46a6de120a9f85b9b2427923ee2c24e", func := "loop.example/transitfares/laws.FnJourneysOfPair", spec := "fnJourneysOfPair", unfollowed := true, recurses := true, apart := false, narrowed := true }
def FnJourneysOfPairUptoSaid : Prop := fnJourneysOfPairUptoRow.holds Try.pinned (OpenSpec.upto fnJourneysOfPairSpec)

/-- 'laws.FnJourneysOfOut', WHERE WHAT IT READS IS OF BULK AT MOST 1048576: true; the input reads as it did. -/
def fnJourneysOfOutUptoRow : OpenClaim := { program := "ytmbgaohnnkmidaa", sum := "15a81afcf9f34cd5f7eb46760889d906d46a6de120a9f85b9b2427923ee2c24e", func := "loop.example/transitfares/laws.FnJourneysOfOut", spec := "fnJourneysOfOut", unfollowed := true, recurses := true, apart := false, narrowed := true }
def FnJourneysOfOutUptoSaid : Prop := fnJourneysOfOutUptoRow.holds Try.pinned (OpenSpec.upto fnJourneysOfOutSpec)

end Rows
end Go.Proofs.Ytmbgaohnnkmidaa
