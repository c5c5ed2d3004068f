/-
  No cell of these rows narrows 'for every input' (looked for: loops, veiled, ifaces, maps, wideKeys, modest, calm, conditions, laid).
  DERIVED. THE GIVEN ROWS OF THIS SEAT. 18 by the template 'for every input the law returns true; each argument reads behind the call as it read before'; 0 by the template 'total and deterministic' (their statements: YtpijjlggmibfnaaTotals.lean).
  GIVEN WITH THE SEED: the statements are not yours to turn. If you find one false, say at which input.
  Laid BY PROGRAM, IN A SANDBOX (cutbox-rows.mjs): the forced cells as the released guide's own fill.sh prints them over the translation bbef85d9b045c3de… (all of the seat's roots in one cut). By AI agents, Wed Nov 11 2026. No macro, syntax, notation, axiom, sorry.
-/
import Derived.Test.YtpijjlggmibfnaaChecked
import GoSem.Claim
import GoSem.ClaimJoined
import GoSem.ClaimMapViews
import Derived.JoinedTies
import Derived.KernelRfl
namespace Go.Proofs.Ytpijjlggmibfnaa
/- THE CELL 'sum', in the pinned program and in every row, IS THE sha256 OF THE DUMP (.gsa) THAT YtpijjlggmibfnaaProg.lean LOADS. Nothing in Lean hashes anything: it is a label: what it is worth is what the hold of that sum in a sandbox is worth. -/
noncomputable def Try.pinned : Pinned := { name := "ytpijjlggmibfnaa", sum := "bbef85d9b045c3deacb00755d4916fc0a6ac83048d9081203c625d92c3870fbe", checked := Try.checked }
namespace Rows
def none {H : Type} : Left H := { results := [], args := [] }

/-- 'laws.FnReduced': WHATEVER THE INPUT: true; the input reads as it did. -/
def fnReducedSpec : ChangeSpec := { name := "fnReduced", fn := fun _ => fun
  | [d] => { results := [.lit (.bool true)], args := [d] }
  | _ => none }
def fnReducedRow : OpenClaim := { program := "ytpijjlggmibfnaa", sum := "bbef85d9b045c3deacb00755d4916fc0a6ac83048d9081203c625d92c3870fbe", func := "loop.example/transitfares/laws.FnReduced", spec := "fnReduced", apart := false }
def FnReducedSaid : Prop := fnReducedRow.holds Try.pinned (OpenSpec.ofChange fnReducedSpec)

/-- ITS FALSE NEIGHBOUR: 'it returns false'. Refute it at one input. -/
def fnReducedWrong : ChangeSpec := { name := "fnReduced", fn := fun _ => fun
  | [d] => { results := [.lit (.bool false)], args := [d] }
  | _ => none }
def FnReducedWrongFalsely : Prop := fnReducedRow.holds Try.pinned (OpenSpec.ofChange fnReducedWrong)

/-- 'laws.FnReducedMore': WHATEVER THE INPUT: true; the input reads as it did. -/
def fnReducedMoreSpec : ChangeSpec := { name := "fnReducedMore", fn := fun _ => fun
  | [d] => { results := [.lit (.bool true)], args := [d] }
  | _ => none }
def fnReducedMoreRow : OpenClaim := { program := "ytpijjlggmibfnaa", sum := "bbef85d9b045c3deacb00755d4916fc0a6ac83048d9081203c625d92c3870fbe", func := "loop.example/transitfares/laws.FnReducedMore", spec := "fnReducedMore", apart := false }
def FnReducedMoreSaid : Prop := fnReducedMoreRow.holds Try.pinned (OpenSpec.ofChange fnReducedMoreSpec)

/-- ITS FALSE NEIGHBOUR: 'it returns false'. Refute it at one input. -/
def fnReducedMoreWrong : ChangeSpec := { name := "fnReducedMore", fn := fun _ => fun
  | [d] => { results := [.lit (.bool false)], args := [d] }
  | _ => none }
def FnReducedMoreWrongFalsely : Prop := fnReducedMoreRow.holds Try.pinned (OpenSpec.ofChange fnReducedMoreWrong)

/-- 'laws.FnReducedStep': WHATEVER THE INPUT: true; the input reads as it did. -/
def fnReducedStepSpec : ChangeSpec := { name := "fnReducedStep", fn := fun _ => fun
  | [d] => { results := [.lit (.bool true)], args := [d] }
  | _ => none }
def fnReducedStepRow : OpenClaim := { program := "ytpijjlggmibfnaa", sum := "bbef85d9b045c3deacb00755d4916fc0a6ac83048d9081203c625d92c3870fbe", func := "loop.example/transitfares/laws.FnReducedStep", spec := "fnReducedStep", apart := false }
def FnReducedStepSaid : Prop := fnReducedStepRow.holds Try.pinned (OpenSpec.ofChange fnReducedStepSpec)

/-- ITS FALSE NEIGHBOUR: 'it returns false'. Refute it at one input. -/
def fnReducedStepWrong : ChangeSpec := { name := "fnReducedStep", fn := fun _ => fun
  | [d] => { results := [.lit (.bool false)], args := [d] }
  | _ => none }
def FnReducedStepWrongFalsely : Prop := fnReducedStepRow.holds Try.pinned (OpenSpec.ofChange fnReducedStepWrong)

/-- 'laws.FnExactReduced': WHATEVER THE INPUT: true; the input reads as it did. -/
def fnExactReducedSpec : ChangeSpec := { name := "fnExactReduced", fn := fun _ => fun
  | [d1, d2, d3] => { results := [.lit (.bool true)], args := [d1, d2, d3] }
  | _ => none }
def fnExactReducedRow : OpenClaim := { program := "ytpijjlggmibfnaa", sum := "bbef85d9b045c3deacb00755d4916fc0a6ac83048d9081203c625d92c3870fbe", func := "loop.example/transitfares/laws.FnExactReduced", spec := "fnExactReduced", apart := false }
def FnExactReducedSaid : Prop := fnExactReducedRow.holds Try.pinned (OpenSpec.ofChange fnExactReducedSpec)

/-- ITS FALSE NEIGHBOUR: 'it returns false'. Refute it at one input. -/
def fnExactReducedWrong : ChangeSpec := { name := "fnExactReduced", fn := fun _ => fun
  | [d1, d2, d3] => { results := [.lit (.bool false)], args := [d1, d2, d3] }
  | _ => none }
def FnExactReducedWrongFalsely : Prop := fnExactReducedRow.holds Try.pinned (OpenSpec.ofChange fnExactReducedWrong)

/-- 'laws.FnValidDeny': WHATEVER THE INPUT: true; the input reads as it did. -/
def fnValidDenySpec : ChangeSpec := { name := "fnValidDeny", fn := fun _ => fun
  | [d] => { results := [.lit (.bool true)], args := [d] }
  | _ => none }
def fnValidDenyRow : OpenClaim := { program := "ytpijjlggmibfnaa", sum := "bbef85d9b045c3deacb00755d4916fc0a6ac83048d9081203c625d92c3870fbe", func := "loop.example/transitfares/laws.FnValidDeny", spec := "fnValidDeny", apart := false }
def FnValidDenySaid : Prop := fnValidDenyRow.holds Try.pinned (OpenSpec.ofChange fnValidDenySpec)

/-- ITS FALSE NEIGHBOUR: 'it returns false'. Refute it at one input. -/
def fnValidDenyWrong : ChangeSpec := { name := "fnValidDeny", fn := fun _ => fun
  | [d] => { results := [.lit (.bool false)], args := [d] }
  | _ => none }
def FnValidDenyWrongFalsely : Prop := fnValidDenyRow.holds Try.pinned (OpenSpec.ofChange fnValidDenyWrong)

/-- 'laws.FnExactValidDeny': WHATEVER THE INPUT: true; the input reads as it did. -/
def fnExactValidDenySpec : ChangeSpec := { name := "fnExactValidDeny", fn := fun _ => fun
  | [d] => { results := [.lit (.bool true)], args := [d] }
  | _ => none }
def fnExactValidDenyRow : OpenClaim := { program := "ytpijjlggmibfnaa", sum := "bbef85d9b045c3deacb00755d4916fc0a6ac83048d9081203c625d92c3870fbe", func := "loop.example/transitfares/laws.FnExactValidDeny", spec := "fnExactValidDeny", apart := false }
def FnExactValidDenySaid : Prop := fnExactValidDenyRow.holds Try.pinned (OpenSpec.ofChange fnExactValidDenySpec)

/-- ITS FALSE NEIGHBOUR: 'it returns false'. Refute it at one input. -/
def fnExactValidDenyWrong : ChangeSpec := { name := "fnExactValidDeny", fn := fun _ => fun
  | [d] => { results := [.lit (.bool false)], args := [d] }
  | _ => none }
def FnExactValidDenyWrongFalsely : Prop := fnExactValidDenyRow.holds Try.pinned (OpenSpec.ofChange fnExactValidDenyWrong)

/-- 'laws.FnValidGate': WHATEVER THE INPUT: true; the input reads as it did. -/
def fnValidGateSpec : ChangeSpec := { name := "fnValidGate", fn := fun _ => fun
  | [d] => { results := [.lit (.bool true)], args := [d] }
  | _ => none }
def fnValidGateRow : OpenClaim := { program := "ytpijjlggmibfnaa", sum := "bbef85d9b045c3deacb00755d4916fc0a6ac83048d9081203c625d92c3870fbe", func := "loop.example/transitfares/laws.FnValidGate", spec := "fnValidGate", apart := false }
def FnValidGateSaid : Prop := fnValidGateRow.holds Try.pinned (OpenSpec.ofChange fnValidGateSpec)

/-- ITS FALSE NEIGHBOUR: 'it returns false'. Refute it at one input. -/
def fnValidGateWrong : ChangeSpec := { name := "fnValidGate", fn := fun _ => fun
  | [d] => { results := [.lit (.bool false)], args := [d] }
  | _ => none }
def FnValidGateWrongFalsely : Prop := fnValidGateRow.holds Try.pinned (OpenSpec.ofChange fnValidGateWrong)

/-- 'laws.FnExactValidGate': WHATEVER THE INPUT: true; the input reads as it did. -/
def fnExactValidGateSpec : ChangeSpec := { name := "fnExactValidGate", fn := fun _ => fun
  | [d] => { results := [.lit (.bool true)], args := [d] }
  | _ => none }
def fnExactValidGateRow : OpenClaim := { program := "ytpijjlggmibfnaa", sum := "bbef85d9b045c3deacb00755d4916fc0a6ac83048d9081203c625d92c3870fbe", func := "loop.example/transitfares/laws.FnExactValidGate", spec := "fnExactValidGate", apart := false }
def FnExactValidGateSaid : Prop := fnExactValidGateRow.holds Try.pinned (OpenSpec.ofChange fnExactValidGateSpec)

/-- ITS FALSE NEIGHBOUR: 'it returns false'. Refute it at one input. -/
def fnExactValidGateWrong : ChangeSpec := { name := "fnExactValidGate", fn := fun _ => fun
  | [d] => { results := [.lit (.bool false)], args := [d] }
  | _ => none }
def FnExactValidGateWrongFalsely : Prop := fnExactValidGateRow.holds Try.pinned (OpenSpec.ofChange fnExactValidGateWrong)

/-- 'laws.FnHoldCard': WHATEVER THE INPUT: true; the input reads as it did. -/
def fnHoldCardSpec : ChangeSpec := { name := "fnHoldCard", fn := fun _ => fun
  | [d] => { results := [.lit (.bool true)], args := [d] }
  | _ => none }
def fnHoldCardRow : OpenClaim := { program := "ytpijjlggmibfnaa", sum := "bbef85d9b045c3deacb00755d4916fc0a6ac83048d9081203c625d92c3870fbe", func := "loop.example/transitfares/laws.FnHoldCard", spec := "fnHoldCard", apart := false }
def FnHoldCardSaid : Prop := fnHoldCardRow.holds Try.pinned (OpenSpec.ofChange fnHoldCardSpec)

/-- ITS FALSE NEIGHBOUR: 'it returns false'. Refute it at one input. -/
def fnHoldCardWrong : ChangeSpec := { name := "fnHoldCard", fn := fun _ => fun
  | [d] => { results := [.lit (.bool false)], args := [d] }
  | _ => none }
def FnHoldCardWrongFalsely : Prop := fnHoldCardRow.holds Try.pinned (OpenSpec.ofChange fnHoldCardWrong)

/-- 'laws.FnHoldCardDeny': WHATEVER THE INPUT: true; the input reads as it did. -/
def fnHoldCardDenySpec : ChangeSpec := { name := "fnHoldCardDeny", fn := fun _ => fun
  | [d] => { results := [.lit (.bool true)], args := [d] }
  | _ => none }
def fnHoldCardDenyRow : OpenClaim := { program := "ytpijjlggmibfnaa", sum := "bbef85d9b045c3deacb00755d4916fc0a6ac83048d9081203c625d92c3870fbe", func := "loop.example/transitfares/laws.FnHoldCardDeny", spec := "fnHoldCardDeny", apart := false }
def FnHoldCardDenySaid : Prop := fnHoldCardDenyRow.holds Try.pinned (OpenSpec.ofChange fnHoldCardDenySpec)

/-- ITS FALSE NEIGHBOUR: 'it returns false'. Refute it at one input. -/
def fnHoldCardDenyWrong : ChangeSpec := { name := "fnHoldCardDeny", fn := fun _ => fun
  | [d] => { results := [.lit (.bool false)], args := [d] }
  | _ => none }
def FnHoldCardDenyWrongFalsely : Prop := fnHoldCardDenyRow.holds Try.pinned (OpenSpec.ofChange fnHoldCardDenyWrong)

/-- 'laws.FnHoldCardOut': WHATEVER THE INPUT: true; the input reads as it did. -/
def fnHoldCardOutSpec : ChangeSpec := { name := "fnHoldCardOut", fn := fun _ => fun
  | [d] => { results := [.lit (.bool true)], args := [d] }
  | _ => none }
def fnHoldCardOutRow : OpenClaim := { program := "ytpijjlggmibfnaa", sum := "bbef85d9b045c3deacb00755d4916fc0a6ac83048d9081203c625d92c3870fbe", func := "loop.example/transitfares/laws.FnHoldCardOut", spec := "fnHoldCardOut", apart := false }
def FnHoldCardOutSaid : Prop := fnHoldCardOutRow.holds Try.pinned (OpenSpec.ofChange fnHoldCardOutSpec)

/-- ITS FALSE NEIGHBOUR: 'it returns false'. Refute it at one input. -/
def fnHoldCardOutWrong : ChangeSpec := { name := "fnHoldCardOut", fn := fun _ => fun
  | [d] => { results := [.lit (.bool false)], args := [d] }
  | _ => none }
def FnHoldCardOutWrongFalsely : Prop := fnHoldCardOutRow.holds Try.pinned (OpenSpec.ofChange fnHoldCardOutWrong)

/-- 'laws.FnExactHoldCard': WHATEVER THE INPUT: true; the input reads as it did. -/
def fnExactHoldCardSpec : ChangeSpec := { name := "fnExactHoldCard", fn := fun _ => fun
  | [d1, d2, d3, d4, d5] => { results := [.lit (.bool true)], args := [d1, d2, d3, d4, d5] }
  | _ => none }
def fnExactHoldCardRow : OpenClaim := { program := "ytpijjlggmibfnaa", sum := "bbef85d9b045c3deacb00755d4916fc0a6ac83048d9081203c625d92c3870fbe", func := "loop.example/transitfares/laws.FnExactHoldCard", spec := "fnExactHoldCard", apart := false }
def FnExactHoldCardSaid : Prop := fnExactHoldCardRow.holds Try.pinned (OpenSpec.ofChange fnExactHoldCardSpec)

/-- ITS FALSE NEIGHBOUR: 'it returns false'. Refute it at one input. -/
def fnExactHoldCardWrong : ChangeSpec := { name := "fnExactHoldCard", fn := fun _ => fun
  | [d1, d2, d3, d4, d5] => { results := [.lit (.bool false)], args := [d1, d2, d3, d4, d5] }
  | _ => none }
def FnExactHoldCardWrongFalsely : Prop := fnExactHoldCardRow.holds Try.pinned (OpenSpec.ofChange fnExactHoldCardWrong)

/-- 'laws.FnSendTaps': WHATEVER THE INPUT: true; the input reads as it did. -/
def fnSendTapsSpec : ChangeSpec := { name := "fnSendTaps", fn := fun _ => fun
  | [d] => { results := [.lit (.bool true)], args := [d] }
  | _ => none }
def fnSendTapsRow : OpenClaim := { program := "ytpijjlggmibfnaa", sum := "bbef85d9b045c3deacb00755d4916fc0a6ac83048d9081203c625d92c3870fbe", func := "loop.example/transitfares/laws.FnSendTaps", spec := "fnSendTaps", apart := false }
def FnSendTapsSaid : Prop := fnSendTapsRow.holds Try.pinned (OpenSpec.ofChange fnSendTapsSpec)

/-- ITS FALSE NEIGHBOUR: 'it returns false'. Refute it at one input. -/
def fnSendTapsWrong : ChangeSpec := { name := "fnSendTaps", fn := fun _ => fun
  | [d] => { results := [.lit (.bool false)], args := [d] }
  | _ => none }
def FnSendTapsWrongFalsely : Prop := fnSendTapsRow.holds Try.pinned (OpenSpec.ofChange fnSendTapsWrong)

/-- 'laws.FnSendTapsCollect': WHATEVER THE INPUT: true; the input reads as it did. -/
def fnSendTapsCollectSpec : ChangeSpec := { name := "fnSendTapsCollect", fn := fun _ => fun
  | [d] => { results := [.lit (.bool true)], args := [d] }
  | _ => none }
def fnSendTapsCollectRow : OpenClaim := { program := "ytpijjlggmibfnaa", sum := "bbef85d9b045c3deacb00755d4916fc0a6ac83048d9081203c625d92c3870fbe", func := "loop.example/transitfares/laws.FnSendTapsCollect", spec := "fnSendTapsCollect", inPlace := ["slices.overlaps[loop.example/transitfares/impl.Tap]"], unfollowed := true, recurses := true, apart := false }
def FnSendTapsCollectSaid : Prop := fnSendTapsCollectRow.holds Try.pinned (OpenSpec.ofChange fnSendTapsCollectSpec)

/-- ITS FALSE NEIGHBOUR: 'it returns false'. Refute it at one input. -/
def fnSendTapsCollectWrong : ChangeSpec := { name := "fnSendTapsCollect", fn := fun _ => fun
  | [d] => { results := [.lit (.bool false)], args := [d] }
  | _ => none }
def FnSendTapsCollectWrongFalsely : Prop := fnSendTapsCollectRow.holds Try.pinned (OpenSpec.ofChange fnSendTapsCollectWrong)

/-- 'laws.FnSendTapsAll': WHATEVER THE INPUT: true; the input reads as it did. -/
def fnSendTapsAllSpec : ChangeSpec := { name := "fnSendTapsAll", fn := fun _ => fun
  | [d] => { results := [.lit (.bool true)], args := [d] }
  | _ => none }
def fnSendTapsAllRow : OpenClaim := { program := "ytpijjlggmibfnaa", sum := "bbef85d9b045c3deacb00755d4916fc0a6ac83048d9081203c625d92c3870fbe", func := "loop.example/transitfares/laws.FnSendTapsAll", spec := "fnSendTapsAll", apart := false }
def FnSendTapsAllSaid : Prop := fnSendTapsAllRow.holds Try.pinned (OpenSpec.ofChange fnSendTapsAllSpec)

/-- ITS FALSE NEIGHBOUR: 'it returns false'. Refute it at one input. -/
def fnSendTapsAllWrong : ChangeSpec := { name := "fnSendTapsAll", fn := fun _ => fun
  | [d] => { results := [.lit (.bool false)], args := [d] }
  | _ => none }
def FnSendTapsAllWrongFalsely : Prop := fnSendTapsAllRow.holds Try.pinned (OpenSpec.ofChange fnSendTapsAllWrong)

/-- 'laws.FnExactSendTaps': WHATEVER THE INPUT: true; the input reads as it did. -/
def fnExactSendTapsSpec : ChangeSpec := { name := "fnExactSendTaps", fn := fun _ => fun
  | [d1, d2] => { results := [.lit (.bool true)], args := [d1, d2] }
  | _ => none }
def fnExactSendTapsRow : OpenClaim := { program := "ytpijjlggmibfnaa", sum := "bbef85d9b045c3deacb00755d4916fc0a6ac83048d9081203c625d92c3870fbe", func := "loop.example/transitfares/laws.FnExactSendTaps", spec := "fnExactSendTaps", apart := false }
def FnExactSendTapsSaid : Prop := fnExactSendTapsRow.holds Try.pinned (OpenSpec.ofChange fnExactSendTapsSpec)

/-- ITS FALSE NEIGHBOUR: 'it returns false'. Refute it at one input. -/
def fnExactSendTapsWrong : ChangeSpec := { name := "fnExactSendTaps", fn := fun _ => fun
  | [d1, d2] => { results := [.lit (.bool false)], args := [d1, d2] }
  | _ => none }
def FnExactSendTapsWrongFalsely : Prop := fnExactSendTapsRow.holds Try.pinned (OpenSpec.ofChange fnExactSendTapsWrong)

/-- 'laws.FnTakeDeny': WHATEVER THE INPUT: true; the input reads as it did. -/
def fnTakeDenySpec : ChangeSpec := { name := "fnTakeDeny", fn := fun _ => fun
  | [d] => { results := [.lit (.bool true)], args := [d] }
  | _ => none }
def fnTakeDenyRow : OpenClaim := { program := "ytpijjlggmibfnaa", sum := "bbef85d9b045c3deacb00755d4916fc0a6ac83048d9081203c625d92c3870fbe", func := "loop.example/transitfares/laws.FnTakeDeny", spec := "fnTakeDeny", apart := false }
def FnTakeDenySaid : Prop := fnTakeDenyRow.holds Try.pinned (OpenSpec.ofChange fnTakeDenySpec)

/-- ITS FALSE NEIGHBOUR: 'it returns false'. Refute it at one input. -/
def fnTakeDenyWrong : ChangeSpec := { name := "fnTakeDeny", fn := fun _ => fun
  | [d] => { results := [.lit (.bool false)], args := [d] }
  | _ => none }
def FnTakeDenyWrongFalsely : Prop := fnTakeDenyRow.holds Try.pinned (OpenSpec.ofChange fnTakeDenyWrong)

/-- 'laws.FnExactTakeDeny': WHATEVER THE INPUT: true; the input reads as it did. -/
def fnExactTakeDenySpec : ChangeSpec := { name := "fnExactTakeDeny", fn := fun _ => fun
  | [d1, d2] => { results := [.lit (.bool true)], args := [d1, d2] }
  | _ => none }
def fnExactTakeDenyRow : OpenClaim := { program := "ytpijjlggmibfnaa", sum := "bbef85d9b045c3deacb00755d4916fc0a6ac83048d9081203c625d92c3870fbe", func := "loop.example/transitfares/laws.FnExactTakeDeny", spec := "fnExactTakeDeny", apart := false }
def FnExactTakeDenySaid : Prop := fnExactTakeDenyRow.holds Try.pinned (OpenSpec.ofChange fnExactTakeDenySpec)

/-- ITS FALSE NEIGHBOUR: 'it returns false'. Refute it at one input. -/
def fnExactTakeDenyWrong : ChangeSpec := { name := "fnExactTakeDeny", fn := fun _ => fun
  | [d1, d2] => { results := [.lit (.bool false)], args := [d1, d2] }
  | _ => none }
def FnExactTakeDenyWrongFalsely : Prop := fnExactTakeDenyRow.holds Try.pinned (OpenSpec.ofChange fnExactTakeDenyWrong)

/- THE SECOND FORM. 'bulk': how many values and letters a reading holds, each counted each time it is reached (what is shared counts as often as it is met; a slice's spare places count too). A statement '..UptoSaid' is the law's where the arguments, and the package variables that the reading takes, are together of bulk at most 1048576: NARROWER than '..Said'. Prove '..Said' where nothing that the law and all that it calls make is longer than what came in: it says more and counts as full. Else prove '..UptoSaid'. A law counts once. -/
mutual
def uptoBulk {H : Type} : DataW H → Nat
  | .lit (.string bytes) => bytes.length + 1
  | .lit _ => 1
  | .nil => 1
  | .ptr d => uptoBulk d + 1
  | .slice elems spare => uptoBulkAll elems + uptoBulkAll spare + 1
  | .agg parts => uptoBulkAll parts + 1
  | .iface _ d => uptoBulk d + 1
  | .map entries => uptoBulkEntries entries + 1
  | .held _ => 1
def uptoBulkAll {H : Type} : List (DataW H) → Nat
  | [] => 0
  | d :: r => uptoBulk d + uptoBulkAll r
def uptoBulkEntries {H : Type} : List (Lit × DataW H) → Nat
  | [] => 0
  | x :: r => uptoBulkEntry x + uptoBulkEntries r
def uptoBulkEntry {H : Type} : Lit × DataW H → Nat
  | (.string bytes, d) => bytes.length + uptoBulk d + 1
  | (_, d) => uptoBulk d + 1
 end
def uptoSmall : (H : Type) → List (DataW H) → Bool := fun _ ds => decide (uptoBulkAll ds ≤ 1048576)
def OpenSpec.upto (s : _root_.Go.ChangeSpec) : _root_.Go.OpenSpec := { _root_.Go.OpenSpec.ofChange s with cond := some uptoSmall }

/-- 'laws.FnReduced', WHERE WHAT IT READS IS OF BULK AT MOST 1048576: true; the input reads as it did. -/
def fnReducedUptoRow : OpenClaim := { program := "ytpijjlggmibfnaa", sum := "bbef85d9b045c3deacb00755d4916fc0a6ac83048d9081203c625d92c3870fbe", func := "loop.example/transitfares/laws.FnReduced", spec := "fnReduced", apart := false, narrowed := true }
def FnReducedUptoSaid : Prop := fnReducedUptoRow.holds Try.pinned (OpenSpec.upto fnReducedSpec)

/-- 'laws.FnReducedMore', WHERE WHAT IT READS IS OF BULK AT MOST 1048576: true; the input reads as it did. -/
def fnReducedMoreUptoRow : OpenClaim := { program := "ytpijjlggmibfnaa", sum := "bbef85d9b045c3deacb00755d4916fc0a6ac83048d9081203c625d92c3870fbe", func := "loop.example/transitfares/laws.FnReducedMore", spec := "fnReducedMore", apart := false, narrowed := true }
def FnReducedMoreUptoSaid : Prop := fnReducedMoreUptoRow.holds Try.pinned (OpenSpec.upto fnReducedMoreSpec)

/-- 'laws.FnReducedStep', WHERE WHAT IT READS IS OF BULK AT MOST 1048576: true; the input reads as it did. -/
def fnReducedStepUptoRow : OpenClaim := { program := "ytpijjlggmibfnaa", sum := "bbef85d9b045c3deacb00755d4916fc0a6ac83048d9081203c625d92c3870fbe", func := "loop.example/transitfares/laws.FnReducedStep", spec := "fnReducedStep", apart := false, narrowed := true }
def FnReducedStepUptoSaid : Prop := fnReducedStepUptoRow.holds Try.pinned (OpenSpec.upto fnReducedStepSpec)

/-- 'laws.FnExactReduced', WHERE WHAT IT READS IS OF BULK AT MOST 1048576: true; the input reads as it did. -/
def fnExactReducedUptoRow : OpenClaim := { program := "ytpijjlggmibfnaa", sum := "bbef85d9b045c3deacb00755d4916fc0a6ac83048d9081203c625d92c3870fbe", func := "loop.example/transitfares/laws.FnExactReduced", spec := "fnExactReduced", apart := false, narrowed := true }
def FnExactReducedUptoSaid : Prop := fnExactReducedUptoRow.holds Try.pinned (OpenSpec.upto fnExactReducedSpec)

/-- 'laws.FnValidDeny', WHERE WHAT IT READS IS OF BULK AT MOST 1048576: true; the input reads as it did. -/
def fnValidDenyUptoRow : OpenClaim := { program := "ytpijjlggmibfnaa", sum := "bbef85d9b045c3deacb00755d4916fc0a6ac83048d9081203c625d92c3870fbe", func := "loop.example/transitfares/laws.FnValidDeny", spec := "fnValidDeny", apart := false, narrowed := true }
def FnValidDenyUptoSaid : Prop := fnValidDenyUptoRow.holds Try.pinned (OpenSpec.upto fnValidDenySpec)

/-- 'laws.FnExactValidDeny', WHERE WHAT IT READS IS OF BULK AT MOST 1048576: true; the input reads as it did. -/
def fnExactValidDenyUptoRow : OpenClaim := { program := "ytpijjlggmibfnaa", sum := "bbef85d9b045c3deacb00755d4916fc0a6ac83048d9081203c625d92c3870fbe", func := "loop.example/transitfares/laws.FnExactValidDeny", spec := "fnExactValidDeny", apart := false, narrowed := true }
def FnExactValidDenyUptoSaid : Prop := fnExactValidDenyUptoRow.holds Try.pinned (OpenSpec.upto fnExactValidDenySpec)

/-- 'laws.FnValidGate', WHERE WHAT IT READS IS OF BULK AT MOST 1048576: true; the input reads as it did. -/
def fnValidGateUptoRow : OpenClaim := { program := "ytpijjlggmibfnaa", sum := "bbef85d9b045c3deacb00755d4916fc0a6ac83048d9081203c625d92c3870fbe", func := "loop.example/transitfares/laws.FnValidGate", spec := "fnValidGate", apart := false, narrowed := true }
def FnValidGateUptoSaid : Prop := fnValidGateUptoRow.holds Try.pinned (OpenSpec.upto fnValidGateSpec)

/-- 'laws.FnExactValidGate', WHERE WHAT IT READS IS OF BULK AT MOST 1048576: true; the input reads as it did. -/
def fnExactValidGateUptoRow : OpenClaim := { program := "ytpijjlggmibfnaa", sum := "bbef85d9b045c3deacb00755d4916fc0a6ac83048d9081203c625d92c3870fbe", func := "loop.example/transitfares/laws.FnExactValidGate", spec := "fnExactValidGate", apart := false, narrowed := true }
def FnExactValidGateUptoSaid : Prop := fnExactValidGateUptoRow.holds Try.pinned (OpenSpec.upto fnExactValidGateSpec)

/-- 'laws.FnHoldCard', WHERE WHAT IT READS IS OF BULK AT MOST 1048576: true; the input reads as it did. -/
def fnHoldCardUptoRow : OpenClaim := { program := "ytpijjlggmibfnaa", sum := "bbef85d9b045c3deacb00755d4916fc0a6ac83048d9081203c625d92c3870fbe", func := "loop.example/transitfares/laws.FnHoldCard", spec := "fnHoldCard", apart := false, narrowed := true }
def FnHoldCardUptoSaid : Prop := fnHoldCardUptoRow.holds Try.pinned (OpenSpec.upto fnHoldCardSpec)

/-- 'laws.FnHoldCardDeny', WHERE WHAT IT READS IS OF BULK AT MOST 1048576: true; the input reads as it did. -/
def fnHoldCardDenyUptoRow : OpenClaim := { program := "ytpijjlggmibfnaa", sum := "bbef85d9b045c3deacb00755d4916fc0a6ac83048d9081203c625d92c3870fbe", func := "loop.example/transitfares/laws.FnHoldCardDeny", spec := "fnHoldCardDeny", apart := false, narrowed := true }
def FnHoldCardDenyUptoSaid : Prop := fnHoldCardDenyUptoRow.holds Try.pinned (OpenSpec.upto fnHoldCardDenySpec)

/-- 'laws.FnHoldCardOut', WHERE WHAT IT READS IS OF BULK AT MOST 1048576: true; the input reads as it did. -/
def fnHoldCardOutUptoRow : OpenClaim := { program := "ytpijjlggmibfnaa", sum := "bbef85d9b045c3deacb00755d4916fc0a6ac83048d9081203c625d92c3870fbe", func := "loop.example/transitfares/laws.FnHoldCardOut", spec := "fnHoldCardOut", apart := false, narrowed := true }
def FnHoldCardOutUptoSaid : Prop := fnHoldCardOutUptoRow.holds Try.pinned (OpenSpec.upto fnHoldCardOutSpec)

/-- 'laws.FnExactHoldCard', WHERE WHAT IT READS IS OF BULK AT MOST 1048576: true; the input reads as it did. -/
def fnExactHoldCardUptoRow : OpenClaim := { program := "ytpijjlggmibfnaa", sum := "bbef85d9b045c3deacb00755d4916fc0a6ac83048d9081203c625d92c3870fbe", func := "loop.example/transitfares/laws.FnExactHoldCard", spec := "fnExactHoldCard", apart := false, narrowed := true }
def FnExactHoldCardUptoSaid : Prop := fnExactHoldCardUptoRow.holds Try.pinned (OpenSpec.upto fnExactHoldCardSpec)

/-- 'laws.FnSendTaps', WHERE WHAT IT READS IS OF BULK AT MOST 1048576: true; the input reads as it did. -/
def fnSendTapsUptoRow : OpenClaim := { program := "ytpijjlggmibfnaa", sum := "bbef85d9b045c3deacb00755d4916fc0a6ac83048d9081203c625d92c3870fbe", func := "loop.example/transitfares/laws.FnSendTaps", spec := "fnSendTaps", apart := false, narrowed := true }
def FnSendTapsUptoSaid : Prop := fnSendTapsUptoRow.holds Try.pinned (OpenSpec.upto fnSendTapsSpec)

/-- 'laws.FnSendTapsCollect', WHERE WHAT IT READS IS OF BULK AT MOST 1048576: true; the input reads as it did. -/
def fnSendTapsCollectUptoRow : OpenClaim := { program := "ytpijjlggmibfnaa", sum := "bbef85d9b045c3deacb00755d4916fc0a6ac83048d9081203c625d92c3870fbe", func := "loop.example/transitfares/laws.FnSendTapsCollect", spec := "fnSendTapsCollect", inPlace := ["slices.overlaps[loop.example/transitfares/impl.Tap]"], unfollowed := true, recurses := true, apart := false, narrowed := true }
def FnSendTapsCollectUptoSaid : Prop := fnSendTapsCollectUptoRow.holds Try.pinned (OpenSpec.upto fnSendTapsCollectSpec)

/-- 'laws.FnSendTapsAll', WHERE WHAT IT READS IS OF BULK AT MOST 1048576: true; the input reads as it did. -/
def fnSendTapsAllUptoRow : OpenClaim := { program := "ytpijjlggmibfnaa", sum := "bbef85d9b045c3deacb00755d4916fc0a6ac83048d9081203c625d92c3870fbe", func := "loop.example/transitfares/laws.FnSendTapsAll", spec := "fnSendTapsAll", apart := false, narrowed := true }
def FnSendTapsAllUptoSaid : Prop := fnSendTapsAllUptoRow.holds Try.pinned (OpenSpec.upto fnSendTapsAllSpec)

/-- 'laws.FnExactSendTaps', WHERE WHAT IT READS IS OF BULK AT MOST 1048576: true; the input reads as it did. -/
def fnExactSendTapsUptoRow : OpenClaim := { program := "ytpijjlggmibfnaa", sum := "bbef85d9b045c3deacb00755d4916fc0a6ac83048d9081203c625d92c3870fbe", func := "loop.example/transitfares/laws.FnExactSendTaps", spec := "fnExactSendTaps", apart := false, narrowed := true }
def FnExactSendTapsUptoSaid : Prop := fnExactSendTapsUptoRow.holds Try.pinned (OpenSpec.upto fnExactSendTapsSpec)

/-- 'laws.FnTakeDeny', WHERE WHAT IT READS IS OF BULK AT MOST 1048576: true; the input reads as it did. -/
def fnTakeDenyUptoRow : OpenClaim := { program := "ytpijjlggmibfnaa", sum := "bbef85d9b045c3deacb00755d4916fc0a6ac83048d9081203c625d92c3870fbe", func := "loop.example/transitfares/laws.FnTakeDeny", spec := "fnTakeDeny", apart := false, narrowed := true }
def FnTakeDenyUptoSaid : Prop := fnTakeDenyUptoRow.holds Try.pinned (OpenSpec.upto fnTakeDenySpec)

/-- 'laws.FnExactTakeDeny', WHERE WHAT IT READS IS OF BULK AT MOST 1048576: true; the input reads as it did. -/
def fnExactTakeDenyUptoRow : OpenClaim := { program := "ytpijjlggmibfnaa", sum := "bbef85d9b045c3deacb00755d4916fc0a6ac83048d9081203c625d92c3870fbe", func := "loop.example/transitfares/laws.FnExactTakeDeny", spec := "fnExactTakeDeny", apart := false, narrowed := true }
def FnExactTakeDenyUptoSaid : Prop := fnExactTakeDenyUptoRow.holds Try.pinned (OpenSpec.upto fnExactTakeDenySpec)

end Rows
end Go.Proofs.Ytpijjlggmibfnaa
