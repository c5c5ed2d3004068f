/-
  No cell of these rows narrows 'for every input' (looked for: loops, veiled, ifaces, maps, wideKeys, modest, calm, conditions, laid).
  DERIVED. THE GIVEN ROWS OF THIS SEAT. 9 by the template 'for every input the law returns true; each argument reads behind the call as it read before'; 0 by the template 'total and deterministic' (their statements: YtfeeofablnjjdaaTotals.lean).
  GIVEN WITH THE SEED: the statements are not yours to turn. If you find one false, say at which input.
  Laid BY PROGRAM, IN A SANDBOX (cutbox-rows.mjs): the forced cells as the released guide's own fill.sh prints them over the translation 86b9489458d7928b… (all of the seat's roots in one cut). By AI agents, Wed Nov 11 2026. No macro, syntax, notation, axiom, sorry.
-/
import Derived.Test.YtfeeofablnjjdaaChecked
import GoSem.Claim
import GoSem.ClaimJoined
import GoSem.ClaimMapViews
import Derived.JoinedTies
import Derived.KernelRfl
namespace Go.Proofs.Ytfeeofablnjjdaa
/- THE CELL 'sum', in the pinned program and in every row, IS THE sha256 OF THE DUMP (.gsa) THAT YtfeeofablnjjdaaProg.lean LOADS. Nothing in Lean hashes anything: it is a label: what it is worth is what the hold of that sum in a sandbox is worth. -/
noncomputable def Try.pinned : Pinned := { name := "ytfeeofablnjjdaa", sum := "86b9489458d7928b079104a5f53c52e2f3f4d539f9b5d3016ec7049f02c86a05", checked := Try.checked }
namespace Rows
def none {H : Type} : Left H := { results := [], args := [] }

/-- 'laws.FnWaitBefore': WHATEVER THE INPUT: true; the input reads as it did. -/
def fnWaitBeforeSpec : ChangeSpec := { name := "fnWaitBefore", fn := fun _ => fun
  | [d] => { results := [.lit (.bool true)], args := [d] }
  | _ => none }
def fnWaitBeforeRow : OpenClaim := { program := "ytfeeofablnjjdaa", sum := "86b9489458d7928b079104a5f53c52e2f3f4d539f9b5d3016ec7049f02c86a05", func := "loop.example/transitfares/laws.FnWaitBefore", spec := "fnWaitBefore", unfollowed := true, recurses := true, apart := false }
def FnWaitBeforeSaid : Prop := fnWaitBeforeRow.holds Try.pinned (OpenSpec.ofChange fnWaitBeforeSpec)

/-- ITS FALSE NEIGHBOUR: 'it returns false'. Refute it at one input. -/
def fnWaitBeforeWrong : ChangeSpec := { name := "fnWaitBefore", fn := fun _ => fun
  | [d] => { results := [.lit (.bool false)], args := [d] }
  | _ => none }
def FnWaitBeforeWrongFalsely : Prop := fnWaitBeforeRow.holds Try.pinned (OpenSpec.ofChange fnWaitBeforeWrong)

/-- 'laws.FnTriesOf': WHATEVER THE INPUT: true; the input reads as it did. -/
def fnTriesOfSpec : ChangeSpec := { name := "fnTriesOf", fn := fun _ => fun
  | [d] => { results := [.lit (.bool true)], args := [d] }
  | _ => none }
def fnTriesOfRow : OpenClaim := { program := "ytfeeofablnjjdaa", sum := "86b9489458d7928b079104a5f53c52e2f3f4d539f9b5d3016ec7049f02c86a05", func := "loop.example/transitfares/laws.FnTriesOf", spec := "fnTriesOf", unfollowed := true, recurses := true, apart := false }
def FnTriesOfSaid : Prop := fnTriesOfRow.holds Try.pinned (OpenSpec.ofChange fnTriesOfSpec)

/-- ITS FALSE NEIGHBOUR: 'it returns false'. Refute it at one input. -/
def fnTriesOfWrong : ChangeSpec := { name := "fnTriesOf", fn := fun _ => fun
  | [d] => { results := [.lit (.bool false)], args := [d] }
  | _ => none }
def FnTriesOfWrongFalsely : Prop := fnTriesOfRow.holds Try.pinned (OpenSpec.ofChange fnTriesOfWrong)

/-- 'laws.FnTriesOfLater': WHATEVER THE INPUT: true; the input reads as it did. -/
def fnTriesOfLaterSpec : ChangeSpec := { name := "fnTriesOfLater", fn := fun _ => fun
  | [d] => { results := [.lit (.bool true)], args := [d] }
  | _ => none }
def fnTriesOfLaterRow : OpenClaim := { program := "ytfeeofablnjjdaa", sum := "86b9489458d7928b079104a5f53c52e2f3f4d539f9b5d3016ec7049f02c86a05", func := "loop.example/transitfares/laws.FnTriesOfLater", spec := "fnTriesOfLater", unfollowed := true, recurses := true, apart := false }
def FnTriesOfLaterSaid : Prop := fnTriesOfLaterRow.holds Try.pinned (OpenSpec.ofChange fnTriesOfLaterSpec)

/-- ITS FALSE NEIGHBOUR: 'it returns false'. Refute it at one input. -/
def fnTriesOfLaterWrong : ChangeSpec := { name := "fnTriesOfLater", fn := fun _ => fun
  | [d] => { results := [.lit (.bool false)], args := [d] }
  | _ => none }
def FnTriesOfLaterWrongFalsely : Prop := fnTriesOfLaterRow.holds Try.pinned (OpenSpec.ofChange fnTriesOfLaterWrong)

/-- 'laws.FnNextTry': WHATEVER THE INPUT: true; the input reads as it did. -/
def fnNextTrySpec : ChangeSpec := { name := "fnNextTry", fn := fun _ => fun
  | [d] => { results := [.lit (.bool true)], args := [d] }
  | _ => none }
def fnNextTryRow : OpenClaim := { program := "ytfeeofablnjjdaa", sum := "86b9489458d7928b079104a5f53c52e2f3f4d539f9b5d3016ec7049f02c86a05", func := "loop.example/transitfares/laws.FnNextTry", spec := "fnNextTry", unfollowed := true, recurses := true, apart := false }
def FnNextTrySaid : Prop := fnNextTryRow.holds Try.pinned (OpenSpec.ofChange fnNextTrySpec)

/-- ITS FALSE NEIGHBOUR: 'it returns false'. Refute it at one input. -/
def fnNextTryWrong : ChangeSpec := { name := "fnNextTry", fn := fun _ => fun
  | [d] => { results := [.lit (.bool false)], args := [d] }
  | _ => none }
def FnNextTryWrongFalsely : Prop := fnNextTryRow.holds Try.pinned (OpenSpec.ofChange fnNextTryWrong)

/-- 'laws.FnWaitBeforeMore': WHATEVER THE INPUT: true; the input reads as it did. -/
def fnWaitBeforeMoreSpec : ChangeSpec := { name := "fnWaitBeforeMore", fn := fun _ => fun
  | [d] => { results := [.lit (.bool true)], args := [d] }
  | _ => none }
def fnWaitBeforeMoreRow : OpenClaim := { program := "ytfeeofablnjjdaa", sum := "86b9489458d7928b079104a5f53c52e2f3f4d539f9b5d3016ec7049f02c86a05", func := "loop.example/transitfares/laws.FnWaitBeforeMore", spec := "fnWaitBeforeMore", unfollowed := true, recurses := true, apart := false }
def FnWaitBeforeMoreSaid : Prop := fnWaitBeforeMoreRow.holds Try.pinned (OpenSpec.ofChange fnWaitBeforeMoreSpec)

/-- ITS FALSE NEIGHBOUR: 'it returns false'. Refute it at one input. -/
def fnWaitBeforeMoreWrong : ChangeSpec := { name := "fnWaitBeforeMore", fn := fun _ => fun
  | [d] => { results := [.lit (.bool false)], args := [d] }
  | _ => none }
def FnWaitBeforeMoreWrongFalsely : Prop := fnWaitBeforeMoreRow.holds Try.pinned (OpenSpec.ofChange fnWaitBeforeMoreWrong)

/-- 'laws.FnNextTryAfter': WHATEVER THE INPUT: true; the input reads as it did. -/
def fnNextTryAfterSpec : ChangeSpec := { name := "fnNextTryAfter", fn := fun _ => fun
  | [d] => { results := [.lit (.bool true)], args := [d] }
  | _ => none }
def fnNextTryAfterRow : OpenClaim := { program := "ytfeeofablnjjdaa", sum := "86b9489458d7928b079104a5f53c52e2f3f4d539f9b5d3016ec7049f02c86a05", func := "loop.example/transitfares/laws.FnNextTryAfter", spec := "fnNextTryAfter", unfollowed := true, recurses := true, apart := false }
def FnNextTryAfterSaid : Prop := fnNextTryAfterRow.holds Try.pinned (OpenSpec.ofChange fnNextTryAfterSpec)

/-- ITS FALSE NEIGHBOUR: 'it returns false'. Refute it at one input. -/
def fnNextTryAfterWrong : ChangeSpec := { name := "fnNextTryAfter", fn := fun _ => fun
  | [d] => { results := [.lit (.bool false)], args := [d] }
  | _ => none }
def FnNextTryAfterWrongFalsely : Prop := fnNextTryAfterRow.holds Try.pinned (OpenSpec.ofChange fnNextTryAfterWrong)

/-- 'laws.FnExactWaitBefore': WHATEVER THE INPUT: true; the input reads as it did. -/
def fnExactWaitBeforeSpec : ChangeSpec := { name := "fnExactWaitBefore", fn := fun _ => fun
  | [d1, d2] => { results := [.lit (.bool true)], args := [d1, d2] }
  | _ => none }
def fnExactWaitBeforeRow : OpenClaim := { program := "ytfeeofablnjjdaa", sum := "86b9489458d7928b079104a5f53c52e2f3f4d539f9b5d3016ec7049f02c86a05", func := "loop.example/transitfares/laws.FnExactWaitBefore", spec := "fnExactWaitBefore", unfollowed := true, recurses := true, apart := false }
def FnExactWaitBeforeSaid : Prop := fnExactWaitBeforeRow.holds Try.pinned (OpenSpec.ofChange fnExactWaitBeforeSpec)

/-- ITS FALSE NEIGHBOUR: 'it returns false'. Refute it at one input. -/
def fnExactWaitBeforeWrong : ChangeSpec := { name := "fnExactWaitBefore", fn := fun _ => fun
  | [d1, d2] => { results := [.lit (.bool false)], args := [d1, d2] }
  | _ => none }
def FnExactWaitBeforeWrongFalsely : Prop := fnExactWaitBeforeRow.holds Try.pinned (OpenSpec.ofChange fnExactWaitBeforeWrong)

/-- 'laws.FnExactTriesOf': WHATEVER THE INPUT: true; the input reads as it did. -/
def fnExactTriesOfSpec : ChangeSpec := { name := "fnExactTriesOf", fn := fun _ => fun
  | [d1, d2] => { results := [.lit (.bool true)], args := [d1, d2] }
  | _ => none }
def fnExactTriesOfRow : OpenClaim := { program := "ytfeeofablnjjdaa", sum := "86b9489458d7928b079104a5f53c52e2f3f4d539f9b5d3016ec7049f02c86a05", func := "loop.example/transitfares/laws.FnExactTriesOf", spec := "fnExactTriesOf", unfollowed := true, recurses := true, apart := false }
def FnExactTriesOfSaid : Prop := fnExactTriesOfRow.holds Try.pinned (OpenSpec.ofChange fnExactTriesOfSpec)

/-- ITS FALSE NEIGHBOUR: 'it returns false'. Refute it at one input. -/
def fnExactTriesOfWrong : ChangeSpec := { name := "fnExactTriesOf", fn := fun _ => fun
  | [d1, d2] => { results := [.lit (.bool false)], args := [d1, d2] }
  | _ => none }
def FnExactTriesOfWrongFalsely : Prop := fnExactTriesOfRow.holds Try.pinned (OpenSpec.ofChange fnExactTriesOfWrong)

/-- 'laws.FnExactNextTry': WHATEVER THE INPUT: true; the input reads as it did. -/
def fnExactNextTrySpec : ChangeSpec := { name := "fnExactNextTry", fn := fun _ => fun
  | [d1, d2, d3] => { results := [.lit (.bool true)], args := [d1, d2, d3] }
  | _ => none }
def fnExactNextTryRow : OpenClaim := { program := "ytfeeofablnjjdaa", sum := "86b9489458d7928b079104a5f53c52e2f3f4d539f9b5d3016ec7049f02c86a05", func := "loop.example/transitfares/laws.FnExactNextTry", spec := "fnExactNextTry", unfollowed := true, recurses := true, apart := false }
def FnExactNextTrySaid : Prop := fnExactNextTryRow.holds Try.pinned (OpenSpec.ofChange fnExactNextTrySpec)

/-- ITS FALSE NEIGHBOUR: 'it returns false'. Refute it at one input. -/
def fnExactNextTryWrong : ChangeSpec := { name := "fnExactNextTry", fn := fun _ => fun
  | [d1, d2, d3] => { results := [.lit (.bool false)], args := [d1, d2, d3] }
  | _ => none }
def FnExactNextTryWrongFalsely : Prop := fnExactNextTryRow.holds Try.pinned (OpenSpec.ofChange fnExactNextTryWrong)

/- THE SECOND FORM. 'bulk': how many values and letters a reading holds, each counted each time it is reached (what is shared counts as often as it is met; a slice's spare places count too). A statement '..UptoSaid' is the law's where the arguments, and the package variables that the reading takes, are together of bulk at most 1048576: NARROWER than '..Said'. Prove '..Said' where nothing that the law and all that it calls make is longer than what came in: it says more and counts as full. Else prove '..UptoSaid'. A law counts once. -/
mutual
def uptoBulk {H : Type} : DataW H → Nat
  | .lit (.string bytes) => bytes.length + 1
  | .lit _ => 1
  | .nil => 1
  | .ptr d => uptoBulk d + 1
  | .slice elems spare => uptoBulkAll elems + uptoBulkAll spare + 1
  | .agg parts => uptoBulkAll parts + 1
  | .iface _ d => uptoBulk d + 1
  | .map entries => uptoBulkEntries entries + 1
  | .held _ => 1
def uptoBulkAll {H : Type} : List (DataW H) → Nat
  | [] => 0
  | d :: r => uptoBulk d + uptoBulkAll r
def uptoBulkEntries {H : Type} : List (Lit × DataW H) → Nat
  | [] => 0
  | x :: r => uptoBulkEntry x + uptoBulkEntries r
def uptoBulkEntry {H : Type} : Lit × DataW H → Nat
  | (.string bytes, d) => bytes.length + uptoBulk d + 1
  | (_, d) => uptoBulk d + 1
 end
def uptoSmall : (H : Type) → List (DataW H) → Bool := fun _ ds => decide (uptoBulkAll ds ≤ 1048576)
def OpenSpec.upto (s : _root_.Go.ChangeSpec) : _root_.Go.OpenSpec := { _root_.Go.OpenSpec.ofChange s with cond := some uptoSmall }

/-- 'laws.FnWaitBefore', WHERE WHAT IT READS IS OF BULK AT MOST 1048576: true; the input reads as it did. -/
def fnWaitBeforeUptoRow : OpenClaim := { program := "ytfeeofablnjjdaa", sum := "86b9489458d7928b079104a5f53c52e2f3f4d539f9b5d3016ec7049f02c86a05", func := "loop.example/transitfares/laws.FnWaitBefore", spec := "fnWaitBefore", unfollowed := true, recurses := true, apart := false, narrowed := true }
def FnWaitBeforeUptoSaid : Prop := fnWaitBeforeUptoRow.holds Try.pinned (OpenSpec.upto fnWaitBeforeSpec)

/-- 'laws.FnTriesOf', WHERE WHAT IT READS IS OF BULK AT MOST 1048576: true; the input reads as it did. -/
def fnTriesOfUptoRow : OpenClaim := { program := "ytfeeofablnjjdaa", sum := "86b9489458d7928b079104a5f53c52e2f3f4d539f9b5d3016ec7049f02c86a05", func := "loop.example/transitfares/laws.FnTriesOf", spec := "fnTriesOf", unfollowed := true, recurses := true, apart := false, narrowed := true }
def FnTriesOfUptoSaid : Prop := fnTriesOfUptoRow.holds Try.pinned (OpenSpec.upto fnTriesOfSpec)

/-- 'laws.FnTriesOfLater', WHERE WHAT IT READS IS OF BULK AT MOST 1048576: true; the input reads as it did. -/
def fnTriesOfLaterUptoRow : OpenClaim := { program := "ytfeeofablnjjdaa", sum := "86b9489458d7928b079104a5f53c52e2f3f4d539f9b5d3016ec7049f02c86a05", func := "loop.example/transitfares/laws.FnTriesOfLater", spec := "fnTriesOfLater", unfollowed := true, recurses := true, apart := false, narrowed := true }
def FnTriesOfLaterUptoSaid : Prop := fnTriesOfLaterUptoRow.holds Try.pinned (OpenSpec.upto fnTriesOfLaterSpec)

/-- 'laws.FnNextTry', WHERE WHAT IT READS IS OF BULK AT MOST 1048576: true; the input reads as it did. -/
def fnNextTryUptoRow : OpenClaim := { program := "ytfeeofablnjjdaa", sum := "86b9489458d7928b079104a5f53c52e2f3f4d539f9b5d3016ec7049f02c86a05", func := "loop.example/transitfares/laws.FnNextTry", spec := "fnNextTry", unfollowed := true, recurses := true, apart := false, narrowed := true }
def FnNextTryUptoSaid : Prop := fnNextTryUptoRow.holds Try.pinned (OpenSpec.upto fnNextTrySpec)

/-- 'laws.FnWaitBeforeMore', WHERE WHAT IT READS IS OF BULK AT MOST 1048576: true; the input reads as it did. -/
def fnWaitBeforeMoreUptoRow : OpenClaim := { program := "ytfeeofablnjjdaa", sum := "86b9489458d7928b079104a5f53c52e2f3f4d539f9b5d3016ec7049f02c86a05", func := "loop.example/transitfares/laws.FnWaitBeforeMore", spec := "fnWaitBeforeMore", unfollowed := true, recurses := true, apart := false, narrowed := true }
def FnWaitBeforeMoreUptoSaid : Prop := fnWaitBeforeMoreUptoRow.holds Try.pinned (OpenSpec.upto fnWaitBeforeMoreSpec)

/-- 'laws.FnNextTryAfter', WHERE WHAT IT READS IS OF BULK AT MOST 1048576: true; the input reads as it did. -/
def fnNextTryAfterUptoRow : OpenClaim := { program := "ytfeeofablnjjdaa", sum := "86b9489458d7928b079104a5f53c52e2f3f4d539f9b5d3016ec7049f02c86a05", func := "loop.example/transitfares/laws.FnNextTryAfter", spec := "fnNextTryAfter", unfollowed := true, recurses := true, apart := false, narrowed := true }
def FnNextTryAfterUptoSaid : Prop := fnNextTryAfterUptoRow.holds Try.pinned (OpenSpec.upto fnNextTryAfterSpec)

/-- 'laws.FnExactWaitBefore', WHERE WHAT IT READS IS OF BULK AT MOST 1048576: true; the input reads as it did. -/
def fnExactWaitBeforeUptoRow : OpenClaim := { program := "ytfeeofablnjjdaa", sum := "86b9489458d7928b079104a5f53c52e2f3f4d539f9b5d3016ec7049f02c86a05", func := "loop.example/transitfares/laws.FnExactWaitBefore", spec := "fnExactWaitBefore", unfollowed := true, recurses := true, apart := false, narrowed := true }
def FnExactWaitBeforeUptoSaid : Prop := fnExactWaitBeforeUptoRow.holds Try.pinned (OpenSpec.upto fnExactWaitBeforeSpec)

/-- 'laws.FnExactTriesOf', WHERE WHAT IT READS IS OF BULK AT MOST 1048576: true; the input reads as it did. -/
def fnExactTriesOfUptoRow : OpenClaim := { program := "ytfeeofablnjjdaa", sum := "86b9489458d7928b079104a5f53c52e2f3f4d539f9b5d3016ec7049f02c86a05", func := "loop.example/transitfares/laws.FnExactTriesOf", spec := "fnExactTriesOf", unfollowed := true, recurses := true, apart := false, narrowed := true }
def FnExactTriesOfUptoSaid : Prop := fnExactTriesOfUptoRow.holds Try.pinned (OpenSpec.upto fnExactTriesOfSpec)

/-- 'laws.FnExactNextTry', WHERE WHAT IT READS IS OF BULK AT MOST 1048576: true; the input reads as it did. -/
def fnExactNextTryUptoRow : OpenClaim := { program := "ytfeeofablnjjdaa", sum := "86b9489458d7928b079104a5f53c52e2f3f4d539f9b5d3016ec7049f02c86a05", func := "loop.example/transitfares/laws.FnExactNextTry", spec := "fnExactNextTry", unfollowed := true, recurses := true, apart := false, narrowed := true }
def FnExactNextTryUptoSaid : Prop := fnExactNextTryUptoRow.holds Try.pinned (OpenSpec.upto fnExactNextTrySpec)

end Rows
end Go.Proofs.Ytfeeofablnjjdaa
