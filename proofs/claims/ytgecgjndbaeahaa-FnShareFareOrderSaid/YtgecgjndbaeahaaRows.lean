/-
  No cell of these rows narrows 'for every input' (looked for: loops, veiled, ifaces, maps, wideKeys, modest, calm, conditions, laid).
  DERIVED. THE GIVEN ROWS OF THIS SEAT. 9 by the template 'for every input the law returns true; each argument reads behind the call as it read before'; 0 by the template 'total and deterministic' (their statements: YtgecgjndbaeahaaTotals.lean).
  GIVEN WITH THE SEED: the statements are not yours to turn. If you find one false, say at which input.
  Laid BY PROGRAM, IN A SANDBOX (cutbox-rows.mjs): the forced cells as the released guide's own fill.sh prints them over the translation 88ff321c1348090e… (all of the seat's roots in one cut). By AI agents, Wed Nov 11 2026. No macro, syntax, notation, axiom, sorry.
-/
import Derived.Test.YtgecgjndbaeahaaChecked
import GoSem.Claim
import GoSem.ClaimJoined
import GoSem.ClaimMapViews
import Derived.JoinedTies
import Derived.KernelRfl
namespace Go.Proofs.Ytgecgjndbaeahaa
/- THE CELL 'sum', in the pinned program and in every row, IS THE sha256 OF THE DUMP (.gsa) THAT YtgecgjndbaeahaaProg.lean LOADS. Nothing in Lean hashes anything: it is a label: what it is worth is what the hold of that sum in a sandbox is worth. -/
noncomputable def Try.pinned : Pinned := { name := "ytgecgjndbaeahaa", sum := "88ff321c1348090e1b61265ce2bbde4d45295b2fcbc82f95c5b2780bd76ece7e", checked := Try.checked }
namespace Rows
def none {H : Type} : Left H := { results := [], args := [] }

/-- 'laws.FnShareFare': WHATEVER THE INPUT: true; the input reads as it did. -/
def fnShareFareSpec : ChangeSpec := { name := "fnShareFare", fn := fun _ => fun
  | [d] => { results := [.lit (.bool true)], args := [d] }
  | _ => none }
def fnShareFareRow : OpenClaim := { program := "ytgecgjndbaeahaa", sum := "88ff321c1348090e1b61265ce2bbde4d45295b2fcbc82f95c5b2780bd76ece7e", func := "loop.example/transitfares/laws.FnShareFare", spec := "fnShareFare", unfollowed := true, recurses := true, apart := false }
def FnShareFareSaid : Prop := fnShareFareRow.holds Try.pinned (OpenSpec.ofChange fnShareFareSpec)

/-- ITS FALSE NEIGHBOUR: 'it returns false'. Refute it at one input. -/
def fnShareFareWrong : ChangeSpec := { name := "fnShareFare", fn := fun _ => fun
  | [d] => { results := [.lit (.bool false)], args := [d] }
  | _ => none }
def FnShareFareWrongFalsely : Prop := fnShareFareRow.holds Try.pinned (OpenSpec.ofChange fnShareFareWrong)

/-- 'laws.FnShareFareOrder': WHATEVER THE INPUT: true; the input reads as it did. -/
def fnShareFareOrderSpec : ChangeSpec := { name := "fnShareFareOrder", fn := fun _ => fun
  | [d] => { results := [.lit (.bool true)], args := [d] }
  | _ => none }
def fnShareFareOrderRow : OpenClaim := { program := "ytgecgjndbaeahaa", sum := "88ff321c1348090e1b61265ce2bbde4d45295b2fcbc82f95c5b2780bd76ece7e", func := "loop.example/transitfares/laws.FnShareFareOrder", spec := "fnShareFareOrder", unfollowed := true, recurses := true, apart := false }
def FnShareFareOrderSaid : Prop := fnShareFareOrderRow.holds Try.pinned (OpenSpec.ofChange fnShareFareOrderSpec)

/-- ITS FALSE NEIGHBOUR: 'it returns false'. Refute it at one input. -/
def fnShareFareOrderWrong : ChangeSpec := { name := "fnShareFareOrder", fn := fun _ => fun
  | [d] => { results := [.lit (.bool false)], args := [d] }
  | _ => none }
def FnShareFareOrderWrongFalsely : Prop := fnShareFareOrderRow.holds Try.pinned (OpenSpec.ofChange fnShareFareOrderWrong)

/-- 'laws.FnShareFareOne': WHATEVER THE INPUT: true; the input reads as it did. -/
def fnShareFareOneSpec : ChangeSpec := { name := "fnShareFareOne", fn := fun _ => fun
  | [d] => { results := [.lit (.bool true)], args := [d] }
  | _ => none }
def fnShareFareOneRow : OpenClaim := { program := "ytgecgjndbaeahaa", sum := "88ff321c1348090e1b61265ce2bbde4d45295b2fcbc82f95c5b2780bd76ece7e", func := "loop.example/transitfares/laws.FnShareFareOne", spec := "fnShareFareOne", unfollowed := true, recurses := true, apart := false }
def FnShareFareOneSaid : Prop := fnShareFareOneRow.holds Try.pinned (OpenSpec.ofChange fnShareFareOneSpec)

/-- ITS FALSE NEIGHBOUR: 'it returns false'. Refute it at one input. -/
def fnShareFareOneWrong : ChangeSpec := { name := "fnShareFareOne", fn := fun _ => fun
  | [d] => { results := [.lit (.bool false)], args := [d] }
  | _ => none }
def FnShareFareOneWrongFalsely : Prop := fnShareFareOneRow.holds Try.pinned (OpenSpec.ofChange fnShareFareOneWrong)

/-- 'laws.FnShareFareNone': WHATEVER THE INPUT: true; the input reads as it did. -/
def fnShareFareNoneSpec : ChangeSpec := { name := "fnShareFareNone", fn := fun _ => fun
  | [d] => { results := [.lit (.bool true)], args := [d] }
  | _ => none }
def fnShareFareNoneRow : OpenClaim := { program := "ytgecgjndbaeahaa", sum := "88ff321c1348090e1b61265ce2bbde4d45295b2fcbc82f95c5b2780bd76ece7e", func := "loop.example/transitfares/laws.FnShareFareNone", spec := "fnShareFareNone", unfollowed := true, recurses := true, apart := false }
def FnShareFareNoneSaid : Prop := fnShareFareNoneRow.holds Try.pinned (OpenSpec.ofChange fnShareFareNoneSpec)

/-- ITS FALSE NEIGHBOUR: 'it returns false'. Refute it at one input. -/
def fnShareFareNoneWrong : ChangeSpec := { name := "fnShareFareNone", fn := fun _ => fun
  | [d] => { results := [.lit (.bool false)], args := [d] }
  | _ => none }
def FnShareFareNoneWrongFalsely : Prop := fnShareFareNoneRow.holds Try.pinned (OpenSpec.ofChange fnShareFareNoneWrong)

/-- 'laws.FnLengthOf': WHATEVER THE INPUT: true; the input reads as it did. -/
def fnLengthOfSpec : ChangeSpec := { name := "fnLengthOf", fn := fun _ => fun
  | [d] => { results := [.lit (.bool true)], args := [d] }
  | _ => none }
def fnLengthOfRow : OpenClaim := { program := "ytgecgjndbaeahaa", sum := "88ff321c1348090e1b61265ce2bbde4d45295b2fcbc82f95c5b2780bd76ece7e", func := "loop.example/transitfares/laws.FnLengthOf", spec := "fnLengthOf", apart := false }
def FnLengthOfSaid : Prop := fnLengthOfRow.holds Try.pinned (OpenSpec.ofChange fnLengthOfSpec)

/-- ITS FALSE NEIGHBOUR: 'it returns false'. Refute it at one input. -/
def fnLengthOfWrong : ChangeSpec := { name := "fnLengthOf", fn := fun _ => fun
  | [d] => { results := [.lit (.bool false)], args := [d] }
  | _ => none }
def FnLengthOfWrongFalsely : Prop := fnLengthOfRow.holds Try.pinned (OpenSpec.ofChange fnLengthOfWrong)

/-- 'laws.FnJoinLegs': WHATEVER THE INPUT: true; the input reads as it did. -/
def fnJoinLegsSpec : ChangeSpec := { name := "fnJoinLegs", fn := fun _ => fun
  | [d] => { results := [.lit (.bool true)], args := [d] }
  | _ => none }
def fnJoinLegsRow : OpenClaim := { program := "ytgecgjndbaeahaa", sum := "88ff321c1348090e1b61265ce2bbde4d45295b2fcbc82f95c5b2780bd76ece7e", func := "loop.example/transitfares/laws.FnJoinLegs", spec := "fnJoinLegs", apart := false }
def FnJoinLegsSaid : Prop := fnJoinLegsRow.holds Try.pinned (OpenSpec.ofChange fnJoinLegsSpec)

/-- ITS FALSE NEIGHBOUR: 'it returns false'. Refute it at one input. -/
def fnJoinLegsWrong : ChangeSpec := { name := "fnJoinLegs", fn := fun _ => fun
  | [d] => { results := [.lit (.bool false)], args := [d] }
  | _ => none }
def FnJoinLegsWrongFalsely : Prop := fnJoinLegsRow.holds Try.pinned (OpenSpec.ofChange fnJoinLegsWrong)

/-- 'laws.FnExactShareFare': WHATEVER THE INPUT: true; the input reads as it did. -/
def fnExactShareFareSpec : ChangeSpec := { name := "fnExactShareFare", fn := fun _ => fun
  | [d1, d2] => { results := [.lit (.bool true)], args := [d1, d2] }
  | _ => none }
def fnExactShareFareRow : OpenClaim := { program := "ytgecgjndbaeahaa", sum := "88ff321c1348090e1b61265ce2bbde4d45295b2fcbc82f95c5b2780bd76ece7e", func := "loop.example/transitfares/laws.FnExactShareFare", spec := "fnExactShareFare", unfollowed := true, recurses := true, apart := false }
def FnExactShareFareSaid : Prop := fnExactShareFareRow.holds Try.pinned (OpenSpec.ofChange fnExactShareFareSpec)

/-- ITS FALSE NEIGHBOUR: 'it returns false'. Refute it at one input. -/
def fnExactShareFareWrong : ChangeSpec := { name := "fnExactShareFare", fn := fun _ => fun
  | [d1, d2] => { results := [.lit (.bool false)], args := [d1, d2] }
  | _ => none }
def FnExactShareFareWrongFalsely : Prop := fnExactShareFareRow.holds Try.pinned (OpenSpec.ofChange fnExactShareFareWrong)

/-- 'laws.FnExactLengthOf': WHATEVER THE INPUT: true; the input reads as it did. -/
def fnExactLengthOfSpec : ChangeSpec := { name := "fnExactLengthOf", fn := fun _ => fun
  | [d1, d2] => { results := [.lit (.bool true)], args := [d1, d2] }
  | _ => none }
def fnExactLengthOfRow : OpenClaim := { program := "ytgecgjndbaeahaa", sum := "88ff321c1348090e1b61265ce2bbde4d45295b2fcbc82f95c5b2780bd76ece7e", func := "loop.example/transitfares/laws.FnExactLengthOf", spec := "fnExactLengthOf", apart := false }
def FnExactLengthOfSaid : Prop := fnExactLengthOfRow.holds Try.pinned (OpenSpec.ofChange fnExactLengthOfSpec)

/-- ITS FALSE NEIGHBOUR: 'it returns false'. Refute it at one input. -/
def fnExactLengthOfWrong : ChangeSpec := { name := "fnExactLengthOf", fn := fun _ => fun
  | [d1, d2] => { results := [.lit (.bool false)], args := [d1, d2] }
  | _ => none }
def FnExactLengthOfWrongFalsely : Prop := fnExactLengthOfRow.holds Try.pinned (OpenSpec.ofChange fnExactLengthOfWrong)

/-- 'laws.FnExactJoinLegs': WHATEVER THE INPUT: true; the input reads as it did. -/
def fnExactJoinLegsSpec : ChangeSpec := { name := "fnExactJoinLegs", fn := fun _ => fun
  | [d] => { results := [.lit (.bool true)], args := [d] }
  | _ => none }
def fnExactJoinLegsRow : OpenClaim := { program := "ytgecgjndbaeahaa", sum := "88ff321c1348090e1b61265ce2bbde4d45295b2fcbc82f95c5b2780bd76ece7e", func := "loop.example/transitfares/laws.FnExactJoinLegs", spec := "fnExactJoinLegs", apart := false }
def FnExactJoinLegsSaid : Prop := fnExactJoinLegsRow.holds Try.pinned (OpenSpec.ofChange fnExactJoinLegsSpec)

/-- ITS FALSE NEIGHBOUR: 'it returns false'. Refute it at one input. -/
def fnExactJoinLegsWrong : ChangeSpec := { name := "fnExactJoinLegs", fn := fun _ => fun
  | [d] => { results := [.lit (.bool false)], args := [d] }
  | _ => none }
def FnExactJoinLegsWrongFalsely : Prop := fnExactJoinLegsRow.holds Try.pinned (OpenSpec.ofChange fnExactJoinLegsWrong)

/- THE SECOND FORM. 'bulk': how many values and letters a reading holds, each counted each time it is reached (what is shared counts as often as it is met; a slice's spare places count too). A statement '..UptoSaid' is the law's where the arguments, and the package variables that the reading takes, are together of bulk at most 1048576: NARROWER than '..Said'. Prove '..Said' where nothing that the law and all that it calls make is longer than what came in: it says more and counts as full. Else prove '..UptoSaid'. A law counts once. -/
mutual
def uptoBulk {H : Type} : DataW H → Nat
  | .lit (.string bytes) => bytes.length + 1
  | .lit _ => 1
  | .nil => 1
  | .ptr d => uptoBulk d + 1
  | .slice elems spare => uptoBulkAll elems + uptoBulkAll spare + 1
  | .agg parts => uptoBulkAll parts + 1
  | .iface _ d => uptoBulk d + 1
  | .map entries => uptoBulkEntries entries + 1
  | .held _ => 1
def uptoBulkAll {H : Type} : List (DataW H) → Nat
  | [] => 0
  | d :: r => uptoBulk d + uptoBulkAll r
def uptoBulkEntries {H : Type} : List (Lit × DataW H) → Nat
  | [] => 0
  | x :: r => uptoBulkEntry x + uptoBulkEntries r
def uptoBulkEntry {H : Type} : Lit × DataW H → Nat
  | (.string bytes, d) => bytes.length + uptoBulk d + 1
  | (_, d) => uptoBulk d + 1
 end
def uptoSmall : (H : Type) → List (DataW H) → Bool := fun _ ds => decide (uptoBulkAll ds ≤ 1048576)
def OpenSpec.upto (s : _root_.Go.ChangeSpec) : _root_.Go.OpenSpec := { _root_.Go.OpenSpec.ofChange s with cond := some uptoSmall }

/-- 'laws.FnShareFare', WHERE WHAT IT READS IS OF BULK AT MOST 1048576: true; the input reads as it did. -/
def fnShareFareUptoRow : OpenClaim := { program := "ytgecgjndbaeahaa", sum := "88ff321c1348090e1b61265ce2bbde4d45295b2fcbc82f95c5b2780bd76ece7e", func := "loop.example/transitfares/laws.FnShareFare", spec := "fnShareFare", unfollowed := true, recurses := true, apart := false, narrowed := true }
def FnShareFareUptoSaid : Prop := fnShareFareUptoRow.holds Try.pinned (OpenSpec.upto fnShareFareSpec)

/-- 'laws.FnShareFareOrder', WHERE WHAT IT READS IS OF BULK AT MOST 1048576: true; the input reads as it did. -/
def fnShareFareOrderUptoRow : OpenClaim := { program := "ytgecgjndbaeahaa", sum := "88ff321c1348090e1b61265ce2bbde4d45295b2fcbc82f95c5b2780bd76ece7e", func := "loop.example/transitfares/laws.FnShareFareOrder", spec := "fnShareFareOrder", unfollowed := true, recurses := true, apart := false, narrowed := true }
def FnShareFareOrderUptoSaid : Prop := fnShareFareOrderUptoRow.holds Try.pinned (OpenSpec.upto fnShareFareOrderSpec)

/-- 'laws.FnShareFareOne', WHERE WHAT IT READS IS OF BULK AT MOST 1048576: true; the input reads as it did. -/
def fnShareFareOneUptoRow : OpenClaim := { program := "ytgecgjndbaeahaa", sum := "88ff321c1348090e1b61265ce2bbde4d45295b2fcbc82f95c5b2780bd76ece7e", func := "loop.example/transitfares/laws.FnShareFareOne", spec := "fnShareFareOne", unfollowed := true, recurses := true, apart := false, narrowed := true }
def FnShareFareOneUptoSaid : Prop := fnShareFareOneUptoRow.holds Try.pinned (OpenSpec.upto fnShareFareOneSpec)

/-- 'laws.FnShareFareNone', WHERE WHAT IT READS IS OF BULK AT MOST 1048576: true; the input reads as it did. -/
def fnShareFareNoneUptoRow : OpenClaim := { program := "ytgecgjndbaeahaa", sum := "88ff321c1348090e1b61265ce2bbde4d45295b2fcbc82f95c5b2780bd76ece7e", func := "loop.example/transitfares/laws.FnShareFareNone", spec := "fnShareFareNone", unfollowed := true, recurses := true, apart := false, narrowed := true }
def FnShareFareNoneUptoSaid : Prop := fnShareFareNoneUptoRow.holds Try.pinned (OpenSpec.upto fnShareFareNoneSpec)

/-- 'laws.FnLengthOf', WHERE WHAT IT READS IS OF BULK AT MOST 1048576: true; the input reads as it did. -/
def fnLengthOfUptoRow : OpenClaim := { program := "ytgecgjndbaeahaa", sum := "88ff321c1348090e1b61265ce2bbde4d45295b2fcbc82f95c5b2780bd76ece7e", func := "loop.example/transitfares/laws.FnLengthOf", spec := "fnLengthOf", apart := false, narrowed := true }
def FnLengthOfUptoSaid : Prop := fnLengthOfUptoRow.holds Try.pinned (OpenSpec.upto fnLengthOfSpec)

/-- 'laws.FnJoinLegs', WHERE WHAT IT READS IS OF BULK AT MOST 1048576: true; the input reads as it did. -/
def fnJoinLegsUptoRow : OpenClaim := { program := "ytgecgjndbaeahaa", sum := "88ff321c1348090e1b61265ce2bbde4d45295b2fcbc82f95c5b2780bd76ece7e", func := "loop.example/transitfares/laws.FnJoinLegs", spec := "fnJoinLegs", apart := false, narrowed := true }
def FnJoinLegsUptoSaid : Prop := fnJoinLegsUptoRow.holds Try.pinned (OpenSpec.upto fnJoinLegsSpec)

/-- 'laws.FnExactShareFare', WHERE WHAT IT READS IS OF BULK AT MOST 1048576: true; the input reads as it did. -/
def fnExactShareFareUptoRow : OpenClaim := { program := "ytgecgjndbaeahaa", sum := "88ff321c1348090e1b61265ce2bbde4d45295b2fcbc82f95c5b2780bd76ece7e", func := "loop.example/transitfares/laws.FnExactShareFare", spec := "fnExactShareFare", unfollowed := true, recurses := true, apart := false, narrowed := true }
def FnExactShareFareUptoSaid : Prop := fnExactShareFareUptoRow.holds Try.pinned (OpenSpec.upto fnExactShareFareSpec)

/-- 'laws.FnExactLengthOf', WHERE WHAT IT READS IS OF BULK AT MOST 1048576: true; the input reads as it did. -/
def fnExactLengthOfUptoRow : OpenClaim := { program := "ytgecgjndbaeahaa", sum := "88ff321c1348090e1b61265ce2bbde4d45295b2fcbc82f95c5b2780bd76ece7e", func := "loop.example/transitfares/laws.FnExactLengthOf", spec := "fnExactLengthOf", apart := false, narrowed := true }
def FnExactLengthOfUptoSaid : Prop := fnExactLengthOfUptoRow.holds Try.pinned (OpenSpec.upto fnExactLengthOfSpec)

/-- 'laws.FnExactJoinLegs', WHERE WHAT IT READS IS OF BULK AT MOST 1048576: true; the input reads as it did. -/
def fnExactJoinLegsUptoRow : OpenClaim := { program := "ytgecgjndbaeahaa", sum := "88ff321c1348090e1b61265ce2bbde4d45295b2fcbc82f95c5b2780bd76ece7e", func := "loop.example/transitfares/laws.FnExactJoinLegs", spec := "fnExactJoinLegs", apart := false, narrowed := true }
def FnExactJoinLegsUptoSaid : Prop := fnExactJoinLegsUptoRow.holds Try.pinned (OpenSpec.upto fnExactJoinLegsSpec)

end Rows
end Go.Proofs.Ytgecgjndbaeahaa
