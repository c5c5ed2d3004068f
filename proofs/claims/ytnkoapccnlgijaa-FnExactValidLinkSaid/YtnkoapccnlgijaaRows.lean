/-
  No cell of these rows narrows 'for every input' (looked for: loops, veiled, ifaces, maps, wideKeys, modest, calm, conditions, laid).
  DERIVED. THE GIVEN ROWS OF THIS SEAT. 13 by the template 'for every input the law returns true; each argument reads behind the call as it read before'; 0 by the template 'total and deterministic' (their statements: YtnkoapccnlgijaaTotals.lean).
  GIVEN WITH THE SEED: the statements are not yours to turn. If you find one false, say at which input.
  Laid BY PROGRAM, IN A SANDBOX (cutbox-rows.mjs): the forced cells as the released guide's own fill.sh prints them over the translation 352f76072272892e… (all of the seat's roots in one cut). By AI agents, Wed Nov 11 2026. No macro, syntax, notation, axiom, sorry.
-/
import Derived.Test.YtnkoapccnlgijaaChecked
import GoSem.Claim
import GoSem.ClaimJoined
import GoSem.ClaimMapViews
import Derived.JoinedTies
import Derived.KernelRfl
namespace Go.Proofs.Ytnkoapccnlgijaa
/- THE CELL 'sum', in the pinned program and in every row, IS THE sha256 OF THE DUMP (.gsa) THAT YtnkoapccnlgijaaProg.lean LOADS. Nothing in Lean hashes anything: it is a label: what it is worth is what the hold of that sum in a sandbox is worth. -/
noncomputable def Try.pinned : Pinned := { name := "ytnkoapccnlgijaa", sum := "352f76072272892ec1bdedd015be5671619bb165a50c2587615ba0d1a1b44eae", checked := Try.checked }
namespace Rows
def none {H : Type} : Left H := { results := [], args := [] }

/-- 'laws.FnExactValidLink': WHATEVER THE INPUT: true; the input reads as it did. -/
def fnExactValidLinkSpec : ChangeSpec := { name := "fnExactValidLink", fn := fun _ => fun
  | [d] => { results := [.lit (.bool true)], args := [d] }
  | _ => none }
def fnExactValidLinkRow : OpenClaim := { program := "ytnkoapccnlgijaa", sum := "352f76072272892ec1bdedd015be5671619bb165a50c2587615ba0d1a1b44eae", func := "loop.example/transitfares/laws.FnExactValidLink", spec := "fnExactValidLink", apart := false }
def FnExactValidLinkSaid : Prop := fnExactValidLinkRow.holds Try.pinned (OpenSpec.ofChange fnExactValidLinkSpec)

/-- ITS FALSE NEIGHBOUR: 'it returns false'. Refute it at one input. -/
def fnExactValidLinkWrong : ChangeSpec := { name := "fnExactValidLink", fn := fun _ => fun
  | [d] => { results := [.lit (.bool false)], args := [d] }
  | _ => none }
def FnExactValidLinkWrongFalsely : Prop := fnExactValidLinkRow.holds Try.pinned (OpenSpec.ofChange fnExactValidLinkWrong)

/-- 'laws.FnExactSendCall': WHATEVER THE INPUT: true; the input reads as it did. -/
def fnExactSendCallSpec : ChangeSpec := { name := "fnExactSendCall", fn := fun _ => fun
  | [d1, d2, d3] => { results := [.lit (.bool true)], args := [d1, d2, d3] }
  | _ => none }
def fnExactSendCallRow : OpenClaim := { program := "ytnkoapccnlgijaa", sum := "352f76072272892ec1bdedd015be5671619bb165a50c2587615ba0d1a1b44eae", func := "loop.example/transitfares/laws.FnExactSendCall", spec := "fnExactSendCall", apart := false }
def FnExactSendCallSaid : Prop := fnExactSendCallRow.holds Try.pinned (OpenSpec.ofChange fnExactSendCallSpec)

/-- ITS FALSE NEIGHBOUR: 'it returns false'. Refute it at one input. -/
def fnExactSendCallWrong : ChangeSpec := { name := "fnExactSendCall", fn := fun _ => fun
  | [d1, d2, d3] => { results := [.lit (.bool false)], args := [d1, d2, d3] }
  | _ => none }
def FnExactSendCallWrongFalsely : Prop := fnExactSendCallRow.holds Try.pinned (OpenSpec.ofChange fnExactSendCallWrong)

/-- 'laws.FnExactTakeAnswer': WHATEVER THE INPUT: true; the input reads as it did. -/
def fnExactTakeAnswerSpec : ChangeSpec := { name := "fnExactTakeAnswer", fn := fun _ => fun
  | [d1, d2, d3] => { results := [.lit (.bool true)], args := [d1, d2, d3] }
  | _ => none }
def fnExactTakeAnswerRow : OpenClaim := { program := "ytnkoapccnlgijaa", sum := "352f76072272892ec1bdedd015be5671619bb165a50c2587615ba0d1a1b44eae", func := "loop.example/transitfares/laws.FnExactTakeAnswer", spec := "fnExactTakeAnswer", unfollowed := true, recurses := true, apart := false }
def FnExactTakeAnswerSaid : Prop := fnExactTakeAnswerRow.holds Try.pinned (OpenSpec.ofChange fnExactTakeAnswerSpec)

/-- ITS FALSE NEIGHBOUR: 'it returns false'. Refute it at one input. -/
def fnExactTakeAnswerWrong : ChangeSpec := { name := "fnExactTakeAnswer", fn := fun _ => fun
  | [d1, d2, d3] => { results := [.lit (.bool false)], args := [d1, d2, d3] }
  | _ => none }
def FnExactTakeAnswerWrongFalsely : Prop := fnExactTakeAnswerRow.holds Try.pinned (OpenSpec.ofChange fnExactTakeAnswerWrong)

/-- 'laws.FnExactLateCalls': WHATEVER THE INPUT: true; the input reads as it did. -/
def fnExactLateCallsSpec : ChangeSpec := { name := "fnExactLateCalls", fn := fun _ => fun
  | [d1, d2, d3] => { results := [.lit (.bool true)], args := [d1, d2, d3] }
  | _ => none }
def fnExactLateCallsRow : OpenClaim := { program := "ytnkoapccnlgijaa", sum := "352f76072272892ec1bdedd015be5671619bb165a50c2587615ba0d1a1b44eae", func := "loop.example/transitfares/laws.FnExactLateCalls", spec := "fnExactLateCalls", unfollowed := true, recurses := true, apart := false }
def FnExactLateCallsSaid : Prop := fnExactLateCallsRow.holds Try.pinned (OpenSpec.ofChange fnExactLateCallsSpec)

/-- ITS FALSE NEIGHBOUR: 'it returns false'. Refute it at one input. -/
def fnExactLateCallsWrong : ChangeSpec := { name := "fnExactLateCalls", fn := fun _ => fun
  | [d1, d2, d3] => { results := [.lit (.bool false)], args := [d1, d2, d3] }
  | _ => none }
def FnExactLateCallsWrongFalsely : Prop := fnExactLateCallsRow.holds Try.pinned (OpenSpec.ofChange fnExactLateCallsWrong)

/-- 'laws.FnExactDropLate': WHATEVER THE INPUT: true; the input reads as it did. -/
def fnExactDropLateSpec : ChangeSpec := { name := "fnExactDropLate", fn := fun _ => fun
  | [d1, d2, d3] => { results := [.lit (.bool true)], args := [d1, d2, d3] }
  | _ => none }
def fnExactDropLateRow : OpenClaim := { program := "ytnkoapccnlgijaa", sum := "352f76072272892ec1bdedd015be5671619bb165a50c2587615ba0d1a1b44eae", func := "loop.example/transitfares/laws.FnExactDropLate", spec := "fnExactDropLate", unfollowed := true, recurses := true, apart := false }
def FnExactDropLateSaid : Prop := fnExactDropLateRow.holds Try.pinned (OpenSpec.ofChange fnExactDropLateSpec)

/-- ITS FALSE NEIGHBOUR: 'it returns false'. Refute it at one input. -/
def fnExactDropLateWrong : ChangeSpec := { name := "fnExactDropLate", fn := fun _ => fun
  | [d1, d2, d3] => { results := [.lit (.bool false)], args := [d1, d2, d3] }
  | _ => none }
def FnExactDropLateWrongFalsely : Prop := fnExactDropLateRow.holds Try.pinned (OpenSpec.ofChange fnExactDropLateWrong)

/-- 'laws.FnValidLink': WHATEVER THE INPUT: true; the input reads as it did. -/
def fnValidLinkSpec : ChangeSpec := { name := "fnValidLink", fn := fun _ => fun
  | [d] => { results := [.lit (.bool true)], args := [d] }
  | _ => none }
def fnValidLinkRow : OpenClaim := { program := "ytnkoapccnlgijaa", sum := "352f76072272892ec1bdedd015be5671619bb165a50c2587615ba0d1a1b44eae", func := "loop.example/transitfares/laws.FnValidLink", spec := "fnValidLink", apart := false }
def FnValidLinkSaid : Prop := fnValidLinkRow.holds Try.pinned (OpenSpec.ofChange fnValidLinkSpec)

/-- ITS FALSE NEIGHBOUR: 'it returns false'. Refute it at one input. -/
def fnValidLinkWrong : ChangeSpec := { name := "fnValidLink", fn := fun _ => fun
  | [d] => { results := [.lit (.bool false)], args := [d] }
  | _ => none }
def FnValidLinkWrongFalsely : Prop := fnValidLinkRow.holds Try.pinned (OpenSpec.ofChange fnValidLinkWrong)

/-- 'laws.FnSendCall': WHATEVER THE INPUT: true; the input reads as it did. -/
def fnSendCallSpec : ChangeSpec := { name := "fnSendCall", fn := fun _ => fun
  | [d] => { results := [.lit (.bool true)], args := [d] }
  | _ => none }
def fnSendCallRow : OpenClaim := { program := "ytnkoapccnlgijaa", sum := "352f76072272892ec1bdedd015be5671619bb165a50c2587615ba0d1a1b44eae", func := "loop.example/transitfares/laws.FnSendCall", spec := "fnSendCall", apart := false }
def FnSendCallSaid : Prop := fnSendCallRow.holds Try.pinned (OpenSpec.ofChange fnSendCallSpec)

/-- ITS FALSE NEIGHBOUR: 'it returns false'. Refute it at one input. -/
def fnSendCallWrong : ChangeSpec := { name := "fnSendCall", fn := fun _ => fun
  | [d] => { results := [.lit (.bool false)], args := [d] }
  | _ => none }
def FnSendCallWrongFalsely : Prop := fnSendCallRow.holds Try.pinned (OpenSpec.ofChange fnSendCallWrong)

/-- 'laws.FnSendCallAnswer': WHATEVER THE INPUT: true; the input reads as it did. -/
def fnSendCallAnswerSpec : ChangeSpec := { name := "fnSendCallAnswer", fn := fun _ => fun
  | [d] => { results := [.lit (.bool true)], args := [d] }
  | _ => none }
def fnSendCallAnswerRow : OpenClaim := { program := "ytnkoapccnlgijaa", sum := "352f76072272892ec1bdedd015be5671619bb165a50c2587615ba0d1a1b44eae", func := "loop.example/transitfares/laws.FnSendCallAnswer", spec := "fnSendCallAnswer", unfollowed := true, recurses := true, apart := false }
def FnSendCallAnswerSaid : Prop := fnSendCallAnswerRow.holds Try.pinned (OpenSpec.ofChange fnSendCallAnswerSpec)

/-- ITS FALSE NEIGHBOUR: 'it returns false'. Refute it at one input. -/
def fnSendCallAnswerWrong : ChangeSpec := { name := "fnSendCallAnswer", fn := fun _ => fun
  | [d] => { results := [.lit (.bool false)], args := [d] }
  | _ => none }
def FnSendCallAnswerWrongFalsely : Prop := fnSendCallAnswerRow.holds Try.pinned (OpenSpec.ofChange fnSendCallAnswerWrong)

/-- 'laws.FnTakeAnswer': WHATEVER THE INPUT: true; the input reads as it did. -/
def fnTakeAnswerSpec : ChangeSpec := { name := "fnTakeAnswer", fn := fun _ => fun
  | [d] => { results := [.lit (.bool true)], args := [d] }
  | _ => none }
def fnTakeAnswerRow : OpenClaim := { program := "ytnkoapccnlgijaa", sum := "352f76072272892ec1bdedd015be5671619bb165a50c2587615ba0d1a1b44eae", func := "loop.example/transitfares/laws.FnTakeAnswer", spec := "fnTakeAnswer", unfollowed := true, recurses := true, apart := false }
def FnTakeAnswerSaid : Prop := fnTakeAnswerRow.holds Try.pinned (OpenSpec.ofChange fnTakeAnswerSpec)

/-- ITS FALSE NEIGHBOUR: 'it returns false'. Refute it at one input. -/
def fnTakeAnswerWrong : ChangeSpec := { name := "fnTakeAnswer", fn := fun _ => fun
  | [d] => { results := [.lit (.bool false)], args := [d] }
  | _ => none }
def FnTakeAnswerWrongFalsely : Prop := fnTakeAnswerRow.holds Try.pinned (OpenSpec.ofChange fnTakeAnswerWrong)

/-- 'laws.FnLateCalls': WHATEVER THE INPUT: true; the input reads as it did. -/
def fnLateCallsSpec : ChangeSpec := { name := "fnLateCalls", fn := fun _ => fun
  | [d] => { results := [.lit (.bool true)], args := [d] }
  | _ => none }
def fnLateCallsRow : OpenClaim := { program := "ytnkoapccnlgijaa", sum := "352f76072272892ec1bdedd015be5671619bb165a50c2587615ba0d1a1b44eae", func := "loop.example/transitfares/laws.FnLateCalls", spec := "fnLateCalls", unfollowed := true, recurses := true, apart := false }
def FnLateCallsSaid : Prop := fnLateCallsRow.holds Try.pinned (OpenSpec.ofChange fnLateCallsSpec)

/-- ITS FALSE NEIGHBOUR: 'it returns false'. Refute it at one input. -/
def fnLateCallsWrong : ChangeSpec := { name := "fnLateCalls", fn := fun _ => fun
  | [d] => { results := [.lit (.bool false)], args := [d] }
  | _ => none }
def FnLateCallsWrongFalsely : Prop := fnLateCallsRow.holds Try.pinned (OpenSpec.ofChange fnLateCallsWrong)

/-- 'laws.FnDropLate': WHATEVER THE INPUT: true; the input reads as it did. -/
def fnDropLateSpec : ChangeSpec := { name := "fnDropLate", fn := fun _ => fun
  | [d] => { results := [.lit (.bool true)], args := [d] }
  | _ => none }
def fnDropLateRow : OpenClaim := { program := "ytnkoapccnlgijaa", sum := "352f76072272892ec1bdedd015be5671619bb165a50c2587615ba0d1a1b44eae", func := "loop.example/transitfares/laws.FnDropLate", spec := "fnDropLate", unfollowed := true, recurses := true, apart := false }
def FnDropLateSaid : Prop := fnDropLateRow.holds Try.pinned (OpenSpec.ofChange fnDropLateSpec)

/-- ITS FALSE NEIGHBOUR: 'it returns false'. Refute it at one input. -/
def fnDropLateWrong : ChangeSpec := { name := "fnDropLate", fn := fun _ => fun
  | [d] => { results := [.lit (.bool false)], args := [d] }
  | _ => none }
def FnDropLateWrongFalsely : Prop := fnDropLateRow.holds Try.pinned (OpenSpec.ofChange fnDropLateWrong)

/-- 'laws.FnSendCallTwice': WHATEVER THE INPUT: true; the input reads as it did. -/
def fnSendCallTwiceSpec : ChangeSpec := { name := "fnSendCallTwice", fn := fun _ => fun
  | [d] => { results := [.lit (.bool true)], args := [d] }
  | _ => none }
def fnSendCallTwiceRow : OpenClaim := { program := "ytnkoapccnlgijaa", sum := "352f76072272892ec1bdedd015be5671619bb165a50c2587615ba0d1a1b44eae", func := "loop.example/transitfares/laws.FnSendCallTwice", spec := "fnSendCallTwice", apart := false }
def FnSendCallTwiceSaid : Prop := fnSendCallTwiceRow.holds Try.pinned (OpenSpec.ofChange fnSendCallTwiceSpec)

/-- ITS FALSE NEIGHBOUR: 'it returns false'. Refute it at one input. -/
def fnSendCallTwiceWrong : ChangeSpec := { name := "fnSendCallTwice", fn := fun _ => fun
  | [d] => { results := [.lit (.bool false)], args := [d] }
  | _ => none }
def FnSendCallTwiceWrongFalsely : Prop := fnSendCallTwiceRow.holds Try.pinned (OpenSpec.ofChange fnSendCallTwiceWrong)

/-- 'laws.FnLateCallsMore': WHATEVER THE INPUT: true; the input reads as it did. -/
def fnLateCallsMoreSpec : ChangeSpec := { name := "fnLateCallsMore", fn := fun _ => fun
  | [d] => { results := [.lit (.bool true)], args := [d] }
  | _ => none }
def fnLateCallsMoreRow : OpenClaim := { program := "ytnkoapccnlgijaa", sum := "352f76072272892ec1bdedd015be5671619bb165a50c2587615ba0d1a1b44eae", func := "loop.example/transitfares/laws.FnLateCallsMore", spec := "fnLateCallsMore", unfollowed := true, recurses := true, apart := false }
def FnLateCallsMoreSaid : Prop := fnLateCallsMoreRow.holds Try.pinned (OpenSpec.ofChange fnLateCallsMoreSpec)

/-- ITS FALSE NEIGHBOUR: 'it returns false'. Refute it at one input. -/
def fnLateCallsMoreWrong : ChangeSpec := { name := "fnLateCallsMore", fn := fun _ => fun
  | [d] => { results := [.lit (.bool false)], args := [d] }
  | _ => none }
def FnLateCallsMoreWrongFalsely : Prop := fnLateCallsMoreRow.holds Try.pinned (OpenSpec.ofChange fnLateCallsMoreWrong)

/- THE SECOND FORM. 'bulk': how many values and letters a reading holds, each counted each time it is reached (what is shared counts as often as it is met; a slice's spare places count too). A statement '..UptoSaid' is the law's where the arguments, and the package variables that the reading takes, are together of bulk at most 1048576: NARROWER than '..Said'. Prove '..Said' where nothing that the law and all that it calls make is longer than what came in: it says more and counts as full. Else prove '..UptoSaid'. A law counts once. -/
mutual
def uptoBulk {H : Type} : DataW H → Nat
  | .lit (.string bytes) => bytes.length + 1
  | .lit _ => 1
  | .nil => 1
  | .ptr d => uptoBulk d + 1
  | .slice elems spare => uptoBulkAll elems + uptoBulkAll spare + 1
  | .agg parts => uptoBulkAll parts + 1
  | .iface _ d => uptoBulk d + 1
  | .map entries => uptoBulkEntries entries + 1
  | .held _ => 1
def uptoBulkAll {H : Type} : List (DataW H) → Nat
  | [] => 0
  | d :: r => uptoBulk d + uptoBulkAll r
def uptoBulkEntries {H : Type} : List (Lit × DataW H) → Nat
  | [] => 0
  | x :: r => uptoBulkEntry x + uptoBulkEntries r
def uptoBulkEntry {H : Type} : Lit × DataW H → Nat
  | (.string bytes, d) => bytes.length + uptoBulk d + 1
  | (_, d) => uptoBulk d + 1
 end
def uptoSmall : (H : Type) → List (DataW H) → Bool := fun _ ds => decide (uptoBulkAll ds ≤ 1048576)
def OpenSpec.upto (s : _root_.Go.ChangeSpec) : _root_.Go.OpenSpec := { _root_.Go.OpenSpec.ofChange s with cond := some uptoSmall }

/-- 'laws.FnExactValidLink', WHERE WHAT IT READS IS OF BULK AT MOST 1048576: true; the input reads as it did. -/
def fnExactValidLinkUptoRow : OpenClaim := { program := "ytnkoapccnlgijaa", sum := "352f76072272892ec1bdedd015be5671619bb165a50c2587615ba0d1a1b44eae", func := "loop.example/transitfares/laws.FnExactValidLink", spec := "fnExactValidLink", apart := false, narrowed := true }
def FnExactValidLinkUptoSaid : Prop := fnExactValidLinkUptoRow.holds Try.pinned (OpenSpec.upto fnExactValidLinkSpec)

/-- 'laws.FnExactSendCall', WHERE WHAT IT READS IS OF BULK AT MOST 1048576: true; the input reads as it did. -/
def fnExactSendCallUptoRow : OpenClaim := { program := "ytnkoapccnlgijaa", sum := "352f76072272892ec1bdedd015be5671619bb165a50c2587615ba0d1a1b44eae", func := "loop.example/transitfares/laws.FnExactSendCall", spec := "fnExactSendCall", apart := false, narrowed := true }
def FnExactSendCallUptoSaid : Prop := fnExactSendCallUptoRow.holds Try.pinned (OpenSpec.upto fnExactSendCallSpec)

/-- 'laws.FnExactTakeAnswer', WHERE WHAT IT READS IS OF BULK AT MOST 1048576: true; the input reads as it did. -/
def fnExactTakeAnswerUptoRow : OpenClaim := { program := "ytnkoapccnlgijaa", sum := "352f76072272892ec1bdedd015be5671619bb165a50c2587615ba0d1a1b44eae", func := "loop.example/transitfares/laws.FnExactTakeAnswer", spec := "fnExactTakeAnswer", unfollowed := true, recurses := true, apart := false, narrowed := true }
def FnExactTakeAnswerUptoSaid : Prop := fnExactTakeAnswerUptoRow.holds Try.pinned (OpenSpec.upto fnExactTakeAnswerSpec)

/-- 'laws.FnExactLateCalls', WHERE WHAT IT READS IS OF BULK AT MOST 1048576: true; the input reads as it did. -/
def fnExactLateCallsUptoRow : OpenClaim := { program := "ytnkoapccnlgijaa", sum := "352f76072272892ec1bdedd015be5671619bb165a50c2587615ba0d1a1b44eae", func := "loop.example/transitfares/laws.FnExactLateCalls", spec := "fnExactLateCalls", unfollowed := true, recurses := true, apart := false, narrowed := true }
def FnExactLateCallsUptoSaid : Prop := fnExactLateCallsUptoRow.holds Try.pinned (OpenSpec.upto fnExactLateCallsSpec)

/-- 'laws.FnExactDropLate', WHERE WHAT IT READS IS OF BULK AT MOST 1048576: true; the input reads as it did. -/
def fnExactDropLateUptoRow : OpenClaim := { program := "ytnkoapccnlgijaa", sum := "352f76072272892ec1bdedd015be5671619bb165a50c2587615ba0d1a1b44eae", func := "loop.example/transitfares/laws.FnExactDropLate", spec := "fnExactDropLate", unfollowed := true, recurses := true, apart := false, narrowed := true }
def FnExactDropLateUptoSaid : Prop := fnExactDropLateUptoRow.holds Try.pinned (OpenSpec.upto fnExactDropLateSpec)

/-- 'laws.FnValidLink', WHERE WHAT IT READS IS OF BULK AT MOST 1048576: true; the input reads as it did. -/
def fnValidLinkUptoRow : OpenClaim := { program := "ytnkoapccnlgijaa", sum := "352f76072272892ec1bdedd015be5671619bb165a50c2587615ba0d1a1b44eae", func := "loop.example/transitfares/laws.FnValidLink", spec := "fnValidLink", apart := false, narrowed := true }
def FnValidLinkUptoSaid : Prop := fnValidLinkUptoRow.holds Try.pinned (OpenSpec.upto fnValidLinkSpec)

/-- 'laws.FnSendCall', WHERE WHAT IT READS IS OF BULK AT MOST 1048576: true; the input reads as it did. -/
def fnSendCallUptoRow : OpenClaim := { program := "ytnkoapccnlgijaa", sum := "352f76072272892ec1bdedd015be5671619bb165a50c2587615ba0d1a1b44eae", func := "loop.example/transitfares/laws.FnSendCall", spec := "fnSendCall", apart := false, narrowed := true }
def FnSendCallUptoSaid : Prop := fnSendCallUptoRow.holds Try.pinned (OpenSpec.upto fnSendCallSpec)

/-- 'laws.FnSendCallAnswer', WHERE WHAT IT READS IS OF BULK AT MOST 1048576: true; the input reads as it did. -/
def fnSendCallAnswerUptoRow : OpenClaim := { program := "ytnkoapccnlgijaa", sum := "352f76072272892ec1bdedd015be5671619bb165a50c2587615ba0d1a1b44eae", func := "loop.example/transitfares/laws.FnSendCallAnswer", spec := "fnSendCallAnswer", unfollowed := true, recurses := true, apart := false, narrowed := true }
def FnSendCallAnswerUptoSaid : Prop := fnSendCallAnswerUptoRow.holds Try.pinned (OpenSpec.upto fnSendCallAnswerSpec)

/-- 'laws.FnTakeAnswer', WHERE WHAT IT READS IS OF BULK AT MOST 1048576: true; the input reads as it did. -/
def fnTakeAnswerUptoRow : OpenClaim := { program := "ytnkoapccnlgijaa", sum := "352f76072272892ec1bdedd015be5671619bb165a50c2587615ba0d1a1b44eae", func := "loop.example/transitfares/laws.FnTakeAnswer", spec := "fnTakeAnswer", unfollowed := true, recurses := true, apart := false, narrowed := true }
def FnTakeAnswerUptoSaid : Prop := fnTakeAnswerUptoRow.holds Try.pinned (OpenSpec.upto fnTakeAnswerSpec)

/-- 'laws.FnLateCalls', WHERE WHAT IT READS IS OF BULK AT MOST 1048576: true; the input reads as it did. -/
def fnLateCallsUptoRow : OpenClaim := { program := "ytnkoapccnlgijaa", sum := "352f76072272892ec1bdedd015be5671619bb165a50c2587615ba0d1a1b44eae", func := "loop.example/transitfares/laws.FnLateCalls", spec := "fnLateCalls", unfollowed := true, recurses := true, apart := false, narrowed := true }
def FnLateCallsUptoSaid : Prop := fnLateCallsUptoRow.holds Try.pinned (OpenSpec.upto fnLateCallsSpec)

/-- 'laws.FnDropLate', WHERE WHAT IT READS IS OF BULK AT MOST 1048576: true; the input reads as it did. -/
def fnDropLateUptoRow : OpenClaim := { program := "ytnkoapccnlgijaa", sum := "352f76072272892ec1bdedd015be5671619bb165a50c2587615ba0d1a1b44eae", func := "loop.example/transitfares/laws.FnDropLate", spec := "fnDropLate", unfollowed := true, recurses := true, apart := false, narrowed := true }
def FnDropLateUptoSaid : Prop := fnDropLateUptoRow.holds Try.pinned (OpenSpec.upto fnDropLateSpec)

/-- 'laws.FnSendCallTwice', WHERE WHAT IT READS IS OF BULK AT MOST 1048576: true; the input reads as it did. -/
def fnSendCallTwiceUptoRow : OpenClaim := { program := "ytnkoapccnlgijaa", sum := "352f76072272892ec1bdedd015be5671619bb165a50c2587615ba0d1a1b44eae", func := "loop.example/transitfares/laws.FnSendCallTwice", spec := "fnSendCallTwice", apart := false, narrowed := true }
def FnSendCallTwiceUptoSaid : Prop := fnSendCallTwiceUptoRow.holds Try.pinned (OpenSpec.upto fnSendCallTwiceSpec)

/-- 'laws.FnLateCallsMore', WHERE WHAT IT READS IS OF BULK AT MOST 1048576: true; the input reads as it did. -/
def fnLateCallsMoreUptoRow : OpenClaim := { program := "ytnkoapccnlgijaa", sum := "352f76072272892ec1bdedd015be5671619bb165a50c2587615ba0d1a1b44eae", func := "loop.example/transitfares/laws.FnLateCallsMore", spec := "fnLateCallsMore", unfollowed := true, recurses := true, apart := false, narrowed := true }
def FnLateCallsMoreUptoSaid : Prop := fnLateCallsMoreUptoRow.holds Try.pinned (OpenSpec.upto fnLateCallsMoreSpec)

end Rows
end Go.Proofs.Ytnkoapccnlgijaa
