/-
  No cell of these rows narrows 'for every input' (looked for: loops, veiled, ifaces, maps, wideKeys, modest, calm, conditions, laid).
  DERIVED. THE GIVEN ROWS OF THIS SEAT. 5 by the template 'for every input the law returns true; each argument reads behind the call as it read before'; 0 by the template 'total and deterministic' (their statements: YtnlnlcllnbggdaaTotals.lean).
  GIVEN WITH THE SEED: the statements are not yours to turn. If you find one false, say at which input.
  Laid BY PROGRAM, IN A SANDBOX (cutbox-rows.mjs): the forced cells as the released guide's own fill.sh prints them over the translation 8008b612a9b97a0e… (all of the seat's roots in one cut). By AI agents, Wed Nov 11 2026. No macro, syntax, notation, axiom, sorry.
-/
import Derived.Test.YtnlnlcllnbggdaaChecked
import GoSem.Claim
import GoSem.ClaimJoined
import GoSem.ClaimMapViews
import Derived.JoinedTies
import Derived.KernelRfl
namespace Go.Proofs.Ytnlnlcllnbggdaa
/- THE CELL 'sum', in the pinned program and in every row, IS THE sha256 OF THE DUMP (.gsa) THAT YtnlnlcllnbggdaaProg.lean LOADS. Nothing in Lean hashes anything: it is a label: what it is worth is what the hold of that sum in a sandbox is worth. -/
noncomputable def Try.pinned : Pinned := { name := "ytnlnlcllnbggdaa", sum := "8008b612a9b97a0e5e36f56f43ab2a2fbb8b61900b26000880360b0c508da62f", checked := Try.checked }
namespace Rows
def none {H : Type} : Left H := { results := [], args := [] }

/-- 'laws.FnAdjustments': WHATEVER THE INPUT: true; the input reads as it did. -/
def fnAdjustmentsSpec : ChangeSpec := { name := "fnAdjustments", fn := fun _ => fun
  | [d] => { results := [.lit (.bool true)], args := [d] }
  | _ => none }
def fnAdjustmentsRow : OpenClaim := { program := "ytnlnlcllnbggdaa", sum := "8008b612a9b97a0e5e36f56f43ab2a2fbb8b61900b26000880360b0c508da62f", func := "loop.example/transitfares/laws.FnAdjustments", spec := "fnAdjustments", apart := false }
def FnAdjustmentsSaid : Prop := fnAdjustmentsRow.holds Try.pinned (OpenSpec.ofChange fnAdjustmentsSpec)

/-- ITS FALSE NEIGHBOUR: 'it returns false'. Refute it at one input. -/
def fnAdjustmentsWrong : ChangeSpec := { name := "fnAdjustments", fn := fun _ => fun
  | [d] => { results := [.lit (.bool false)], args := [d] }
  | _ => none }
def FnAdjustmentsWrongFalsely : Prop := fnAdjustmentsRow.holds Try.pinned (OpenSpec.ofChange fnAdjustmentsWrong)

/-- 'laws.FnAdjustmentsBack': WHATEVER THE INPUT: true; the input reads as it did. -/
def fnAdjustmentsBackSpec : ChangeSpec := { name := "fnAdjustmentsBack", fn := fun _ => fun
  | [d] => { results := [.lit (.bool true)], args := [d] }
  | _ => none }
def fnAdjustmentsBackRow : OpenClaim := { program := "ytnlnlcllnbggdaa", sum := "8008b612a9b97a0e5e36f56f43ab2a2fbb8b61900b26000880360b0c508da62f", func := "loop.example/transitfares/laws.FnAdjustmentsBack", spec := "fnAdjustmentsBack", apart := false }
def FnAdjustmentsBackSaid : Prop := fnAdjustmentsBackRow.holds Try.pinned (OpenSpec.ofChange fnAdjustmentsBackSpec)

/-- ITS FALSE NEIGHBOUR: 'it returns false'. Refute it at one input. -/
def fnAdjustmentsBackWrong : ChangeSpec := { name := "fnAdjustmentsBack", fn := fun _ => fun
  | [d] => { results := [.lit (.bool false)], args := [d] }
  | _ => none }
def FnAdjustmentsBackWrongFalsely : Prop := fnAdjustmentsBackRow.holds Try.pinned (OpenSpec.ofChange fnAdjustmentsBackWrong)

/-- 'laws.FnApplyAdjust': WHATEVER THE INPUT: true; the input reads as it did. -/
def fnApplyAdjustSpec : ChangeSpec := { name := "fnApplyAdjust", fn := fun _ => fun
  | [d] => { results := [.lit (.bool true)], args := [d] }
  | _ => none }
def fnApplyAdjustRow : OpenClaim := { program := "ytnlnlcllnbggdaa", sum := "8008b612a9b97a0e5e36f56f43ab2a2fbb8b61900b26000880360b0c508da62f", func := "loop.example/transitfares/laws.FnApplyAdjust", spec := "fnApplyAdjust", apart := false }
def FnApplyAdjustSaid : Prop := fnApplyAdjustRow.holds Try.pinned (OpenSpec.ofChange fnApplyAdjustSpec)

/-- ITS FALSE NEIGHBOUR: 'it returns false'. Refute it at one input. -/
def fnApplyAdjustWrong : ChangeSpec := { name := "fnApplyAdjust", fn := fun _ => fun
  | [d] => { results := [.lit (.bool false)], args := [d] }
  | _ => none }
def FnApplyAdjustWrongFalsely : Prop := fnApplyAdjustRow.holds Try.pinned (OpenSpec.ofChange fnApplyAdjustWrong)

/-- 'laws.FnExactAdjustments': WHATEVER THE INPUT: true; the input reads as it did. -/
def fnExactAdjustmentsSpec : ChangeSpec := { name := "fnExactAdjustments", fn := fun _ => fun
  | [d1, d2] => { results := [.lit (.bool true)], args := [d1, d2] }
  | _ => none }
def fnExactAdjustmentsRow : OpenClaim := { program := "ytnlnlcllnbggdaa", sum := "8008b612a9b97a0e5e36f56f43ab2a2fbb8b61900b26000880360b0c508da62f", func := "loop.example/transitfares/laws.FnExactAdjustments", spec := "fnExactAdjustments", apart := false }
def FnExactAdjustmentsSaid : Prop := fnExactAdjustmentsRow.holds Try.pinned (OpenSpec.ofChange fnExactAdjustmentsSpec)

/-- ITS FALSE NEIGHBOUR: 'it returns false'. Refute it at one input. -/
def fnExactAdjustmentsWrong : ChangeSpec := { name := "fnExactAdjustments", fn := fun _ => fun
  | [d1, d2] => { results := [.lit (.bool false)], args := [d1, d2] }
  | _ => none }
def FnExactAdjustmentsWrongFalsely : Prop := fnExactAdjustmentsRow.holds Try.pinned (OpenSpec.ofChange fnExactAdjustmentsWrong)

/-- 'laws.FnExactApplyAdjust': WHATEVER THE INPUT: true; the input reads as it did. -/
def fnExactApplyAdjustSpec : ChangeSpec := { name := "fnExactApplyAdjust", fn := fun _ => fun
  | [d1, d2] => { results := [.lit (.bool true)], args := [d1, d2] }
  | _ => none }
def fnExactApplyAdjustRow : OpenClaim := { program := "ytnlnlcllnbggdaa", sum := "8008b612a9b97a0e5e36f56f43ab2a2fbb8b61900b26000880360b0c508da62f", func := "loop.example/transitfares/laws.FnExactApplyAdjust", spec := "fnExactApplyAdjust", apart := false }
def FnExactApplyAdjustSaid : Prop := fnExactApplyAdjustRow.holds Try.pinned (OpenSpec.ofChange fnExactApplyAdjustSpec)

/-- ITS FALSE NEIGHBOUR: 'it returns false'. Refute it at one input. -/
def fnExactApplyAdjustWrong : ChangeSpec := { name := "fnExactApplyAdjust", fn := fun _ => fun
  | [d1, d2] => { results := [.lit (.bool false)], args := [d1, d2] }
  | _ => none }
def FnExactApplyAdjustWrongFalsely : Prop := fnExactApplyAdjustRow.holds Try.pinned (OpenSpec.ofChange fnExactApplyAdjustWrong)

/- THE SECOND FORM. 'bulk': how many values and letters a reading holds, each counted each time it is reached (what is shared counts as often as it is met; a slice's spare places count too). A statement '..UptoSaid' is the law's where the arguments, and the package variables that the reading takes, are together of bulk at most 1048576: NARROWER than '..Said'. Prove '..Said' where nothing that the law and all that it calls make is longer than what came in: it says more and counts as full. Else prove '..UptoSaid'. A law counts once. -/
mutual
def uptoBulk {H : Type} : DataW H → Nat
  | .lit (.string bytes) => bytes.length + 1
  | .lit _ => 1
  | .nil => 1
  | .ptr d => uptoBulk d + 1
  | .slice elems spare => uptoBulkAll elems + uptoBulkAll spare + 1
  | .agg parts => uptoBulkAll parts + 1
  | .iface _ d => uptoBulk d + 1
  | .map entries => uptoBulkEntries entries + 1
  | .held _ => 1
def uptoBulkAll {H : Type} : List (DataW H) → Nat
  | [] => 0
  | d :: r => uptoBulk d + uptoBulkAll r
def uptoBulkEntries {H : Type} : List (Lit × DataW H) → Nat
  | [] => 0
  | x :: r => uptoBulkEntry x + uptoBulkEntries r
def uptoBulkEntry {H : Type} : Lit × DataW H → Nat
  | (.string bytes, d) => bytes.length + uptoBulk d + 1
  | (_, d) => uptoBulk d + 1
 end
def uptoSmall : (H : Type) → List (DataW H) → Bool := fun _ ds => decide (uptoBulkAll ds ≤ 1048576)
def OpenSpec.upto (s : _root_.Go.ChangeSpec) : _root_.Go.OpenSpec := { _root_.Go.OpenSpec.ofChange s with cond := some uptoSmall }

/-- 'laws.FnAdjustments', WHERE WHAT IT READS IS OF BULK AT MOST 1048576: true; the input reads as it did. -/
def fnAdjustmentsUptoRow : OpenClaim := { program := "ytnlnlcllnbggdaa", sum := "8008b612a9b97a0e5e36f56f43ab2a2fbb8b61900b26000880360b0c508da62f", func := "loop.example/transitfares/laws.FnAdjustments", spec := "fnAdjustments", apart := false, narrowed := true }
def FnAdjustmentsUptoSaid : Prop := fnAdjustmentsUptoRow.holds Try.pinned (OpenSpec.upto fnAdjustmentsSpec)

/-- 'laws.FnAdjustmentsBack', WHERE WHAT IT READS IS OF BULK AT MOST 1048576: true; the input reads as it did. -/
def fnAdjustmentsBackUptoRow : OpenClaim := { program := "ytnlnlcllnbggdaa", sum := "8008b612a9b97a0e5e36f56f43ab2a2fbb8b61900b26000880360b0c508da62f", func := "loop.example/transitfares/laws.FnAdjustmentsBack", spec := "fnAdjustmentsBack", apart := false, narrowed := true }
def FnAdjustmentsBackUptoSaid : Prop := fnAdjustmentsBackUptoRow.holds Try.pinned (OpenSpec.upto fnAdjustmentsBackSpec)

/-- 'laws.FnApplyAdjust', WHERE WHAT IT READS IS OF BULK AT MOST 1048576: true; the input reads as it did. -/
def fnApplyAdjustUptoRow : OpenClaim := { program := "ytnlnlcllnbggdaa", sum := "8008b612a9b97a0e5e36f56f43ab2a2fbb8b61900b26000880360b0c508da62f", func := "loop.example/transitfares/laws.FnApplyAdjust", spec := "fnApplyAdjust", apart := false, narrowed := true }
def FnApplyAdjustUptoSaid : Prop := fnApplyAdjustUptoRow.holds Try.pinned (OpenSpec.upto fnApplyAdjustSpec)

/-- 'laws.FnExactAdjustments', WHERE WHAT IT READS IS OF BULK AT MOST 1048576: true; the input reads as it did. -/
def fnExactAdjustmentsUptoRow : OpenClaim := { program := "ytnlnlcllnbggdaa", sum := "8008b612a9b97a0e5e36f56f43ab2a2fbb8b61900b26000880360b0c508da62f", func := "loop.example/transitfares/laws.FnExactAdjustments", spec := "fnExactAdjustments", apart := false, narrowed := true }
def FnExactAdjustmentsUptoSaid : Prop := fnExactAdjustmentsUptoRow.holds Try.pinned (OpenSpec.upto fnExactAdjustmentsSpec)

/-- 'laws.FnExactApplyAdjust', WHERE WHAT IT READS IS OF BULK AT MOST 1048576: true; the input reads as it did. -/
def fnExactApplyAdjustUptoRow : OpenClaim := { program := "ytnlnlcllnbggdaa", sum := "8008b612a9b97a0e5e36f56f43ab2a2fbb8b61900b26000880360b0c508da62f", func := "loop.example/transitfares/laws.FnExactApplyAdjust", spec := "fnExactApplyAdjust", apart := false, narrowed := true }
def FnExactApplyAdjustUptoSaid : Prop := fnExactApplyAdjustUptoRow.holds Try.pinned (OpenSpec.upto fnExactApplyAdjustSpec)

end Rows
end Go.Proofs.Ytnlnlcllnbggdaa
