/-
  No cell of these rows narrows 'for every input' (looked for: loops, veiled, ifaces, maps, wideKeys, modest, calm, conditions, laid).
  DERIVED. THE GIVEN ROWS OF THIS SEAT. 15 by the template 'for every input the law returns true; each argument reads behind the call as it read before'; 0 by the template 'total and deterministic' (their statements: YtpdddadplagcpaaTotals.lean).
  GIVEN WITH THE SEED: the statements are not yours to turn. If you find one false, say at which input.
  Laid BY PROGRAM, IN A SANDBOX (cutbox-rows.mjs): the forced cells as the released guide's own fill.sh prints them over the translation 5e9a37c53a264be3… (all of the seat's roots in one cut). By AI agents, Wed Nov 11 2026. No macro, syntax, notation, axiom, sorry.
-/
import Derived.Test.YtpdddadplagcpaaChecked
import GoSem.Claim
import GoSem.ClaimJoined
import GoSem.ClaimMapViews
import Derived.JoinedTies
import Derived.KernelRfl
namespace Go.Proofs.Ytpdddadplagcpaa
/- THE CELL 'sum', in the pinned program and in every row, IS THE sha256 OF THE DUMP (.gsa) THAT YtpdddadplagcpaaProg.lean LOADS. Nothing in Lean hashes anything: it is a label: what it is worth is what the hold of that sum in a sandbox is worth. -/
noncomputable def Try.pinned : Pinned := { name := "ytpdddadplagcpaa", sum := "5e9a37c53a264be3f12f99f571fbc21b0c3e38ff659c4c5bdc22e0330570f55f", checked := Try.checked }
namespace Rows
def none {H : Type} : Left H := { results := [], args := [] }

/-- 'laws.FnValidDebts': WHATEVER THE INPUT: true; the input reads as it did. -/
def fnValidDebtsSpec : ChangeSpec := { name := "fnValidDebts", fn := fun _ => fun
  | [d] => { results := [.lit (.bool true)], args := [d] }
  | _ => none }
def fnValidDebtsRow : OpenClaim := { program := "ytpdddadplagcpaa", sum := "5e9a37c53a264be3f12f99f571fbc21b0c3e38ff659c4c5bdc22e0330570f55f", func := "loop.example/transitfares/laws.FnValidDebts", spec := "fnValidDebts", apart := false }
def FnValidDebtsSaid : Prop := fnValidDebtsRow.holds Try.pinned (OpenSpec.ofChange fnValidDebtsSpec)

/-- ITS FALSE NEIGHBOUR: 'it returns false'. Refute it at one input. -/
def fnValidDebtsWrong : ChangeSpec := { name := "fnValidDebts", fn := fun _ => fun
  | [d] => { results := [.lit (.bool false)], args := [d] }
  | _ => none }
def FnValidDebtsWrongFalsely : Prop := fnValidDebtsRow.holds Try.pinned (OpenSpec.ofChange fnValidDebtsWrong)

/-- 'laws.FnDebtOf': WHATEVER THE INPUT: true; the input reads as it did. -/
def fnDebtOfSpec : ChangeSpec := { name := "fnDebtOf", fn := fun _ => fun
  | [d] => { results := [.lit (.bool true)], args := [d] }
  | _ => none }
def fnDebtOfRow : OpenClaim := { program := "ytpdddadplagcpaa", sum := "5e9a37c53a264be3f12f99f571fbc21b0c3e38ff659c4c5bdc22e0330570f55f", func := "loop.example/transitfares/laws.FnDebtOf", spec := "fnDebtOf", apart := false }
def FnDebtOfSaid : Prop := fnDebtOfRow.holds Try.pinned (OpenSpec.ofChange fnDebtOfSpec)

/-- ITS FALSE NEIGHBOUR: 'it returns false'. Refute it at one input. -/
def fnDebtOfWrong : ChangeSpec := { name := "fnDebtOf", fn := fun _ => fun
  | [d] => { results := [.lit (.bool false)], args := [d] }
  | _ => none }
def FnDebtOfWrongFalsely : Prop := fnDebtOfRow.holds Try.pinned (OpenSpec.ofChange fnDebtOfWrong)

/-- 'laws.FnAddDebt': WHATEVER THE INPUT: true; the input reads as it did. -/
def fnAddDebtSpec : ChangeSpec := { name := "fnAddDebt", fn := fun _ => fun
  | [d] => { results := [.lit (.bool true)], args := [d] }
  | _ => none }
def fnAddDebtRow : OpenClaim := { program := "ytpdddadplagcpaa", sum := "5e9a37c53a264be3f12f99f571fbc21b0c3e38ff659c4c5bdc22e0330570f55f", func := "loop.example/transitfares/laws.FnAddDebt", spec := "fnAddDebt", inPlace := ["slices.overlaps[loop.example/transitfares/impl.Debt]"], unfollowed := true, recurses := true, apart := false }
def FnAddDebtSaid : Prop := fnAddDebtRow.holds Try.pinned (OpenSpec.ofChange fnAddDebtSpec)

/-- ITS FALSE NEIGHBOUR: 'it returns false'. Refute it at one input. -/
def fnAddDebtWrong : ChangeSpec := { name := "fnAddDebt", fn := fun _ => fun
  | [d] => { results := [.lit (.bool false)], args := [d] }
  | _ => none }
def FnAddDebtWrongFalsely : Prop := fnAddDebtRow.holds Try.pinned (OpenSpec.ofChange fnAddDebtWrong)

/-- 'laws.FnAddDebtOrder': WHATEVER THE INPUT: true; the input reads as it did. -/
def fnAddDebtOrderSpec : ChangeSpec := { name := "fnAddDebtOrder", fn := fun _ => fun
  | [d] => { results := [.lit (.bool true)], args := [d] }
  | _ => none }
def fnAddDebtOrderRow : OpenClaim := { program := "ytpdddadplagcpaa", sum := "5e9a37c53a264be3f12f99f571fbc21b0c3e38ff659c4c5bdc22e0330570f55f", func := "loop.example/transitfares/laws.FnAddDebtOrder", spec := "fnAddDebtOrder", inPlace := ["slices.overlaps[loop.example/transitfares/impl.Debt]"], unfollowed := true, recurses := true, apart := false }
def FnAddDebtOrderSaid : Prop := fnAddDebtOrderRow.holds Try.pinned (OpenSpec.ofChange fnAddDebtOrderSpec)

/-- ITS FALSE NEIGHBOUR: 'it returns false'. Refute it at one input. -/
def fnAddDebtOrderWrong : ChangeSpec := { name := "fnAddDebtOrder", fn := fun _ => fun
  | [d] => { results := [.lit (.bool false)], args := [d] }
  | _ => none }
def FnAddDebtOrderWrongFalsely : Prop := fnAddDebtOrderRow.holds Try.pinned (OpenSpec.ofChange fnAddDebtOrderWrong)

/-- 'laws.FnPayDebts': WHATEVER THE INPUT: true; the input reads as it did. -/
def fnPayDebtsSpec : ChangeSpec := { name := "fnPayDebts", fn := fun _ => fun
  | [d] => { results := [.lit (.bool true)], args := [d] }
  | _ => none }
def fnPayDebtsRow : OpenClaim := { program := "ytpdddadplagcpaa", sum := "5e9a37c53a264be3f12f99f571fbc21b0c3e38ff659c4c5bdc22e0330570f55f", func := "loop.example/transitfares/laws.FnPayDebts", spec := "fnPayDebts", apart := false }
def FnPayDebtsSaid : Prop := fnPayDebtsRow.holds Try.pinned (OpenSpec.ofChange fnPayDebtsSpec)

/-- ITS FALSE NEIGHBOUR: 'it returns false'. Refute it at one input. -/
def fnPayDebtsWrong : ChangeSpec := { name := "fnPayDebts", fn := fun _ => fun
  | [d] => { results := [.lit (.bool false)], args := [d] }
  | _ => none }
def FnPayDebtsWrongFalsely : Prop := fnPayDebtsRow.holds Try.pinned (OpenSpec.ofChange fnPayDebtsWrong)

/-- 'laws.FnPayDebtsOld': WHATEVER THE INPUT: true; the input reads as it did. -/
def fnPayDebtsOldSpec : ChangeSpec := { name := "fnPayDebtsOld", fn := fun _ => fun
  | [d] => { results := [.lit (.bool true)], args := [d] }
  | _ => none }
def fnPayDebtsOldRow : OpenClaim := { program := "ytpdddadplagcpaa", sum := "5e9a37c53a264be3f12f99f571fbc21b0c3e38ff659c4c5bdc22e0330570f55f", func := "loop.example/transitfares/laws.FnPayDebtsOld", spec := "fnPayDebtsOld", apart := false }
def FnPayDebtsOldSaid : Prop := fnPayDebtsOldRow.holds Try.pinned (OpenSpec.ofChange fnPayDebtsOldSpec)

/-- ITS FALSE NEIGHBOUR: 'it returns false'. Refute it at one input. -/
def fnPayDebtsOldWrong : ChangeSpec := { name := "fnPayDebtsOld", fn := fun _ => fun
  | [d] => { results := [.lit (.bool false)], args := [d] }
  | _ => none }
def FnPayDebtsOldWrongFalsely : Prop := fnPayDebtsOldRow.holds Try.pinned (OpenSpec.ofChange fnPayDebtsOldWrong)

/-- 'laws.FnPayDebtsTwice': WHATEVER THE INPUT: true; the input reads as it did. -/
def fnPayDebtsTwiceSpec : ChangeSpec := { name := "fnPayDebtsTwice", fn := fun _ => fun
  | [d] => { results := [.lit (.bool true)], args := [d] }
  | _ => none }
def fnPayDebtsTwiceRow : OpenClaim := { program := "ytpdddadplagcpaa", sum := "5e9a37c53a264be3f12f99f571fbc21b0c3e38ff659c4c5bdc22e0330570f55f", func := "loop.example/transitfares/laws.FnPayDebtsTwice", spec := "fnPayDebtsTwice", apart := false }
def FnPayDebtsTwiceSaid : Prop := fnPayDebtsTwiceRow.holds Try.pinned (OpenSpec.ofChange fnPayDebtsTwiceSpec)

/-- ITS FALSE NEIGHBOUR: 'it returns false'. Refute it at one input. -/
def fnPayDebtsTwiceWrong : ChangeSpec := { name := "fnPayDebtsTwice", fn := fun _ => fun
  | [d] => { results := [.lit (.bool false)], args := [d] }
  | _ => none }
def FnPayDebtsTwiceWrongFalsely : Prop := fnPayDebtsTwiceRow.holds Try.pinned (OpenSpec.ofChange fnPayDebtsTwiceWrong)

/-- 'laws.FnOldDebts': WHATEVER THE INPUT: true; the input reads as it did. -/
def fnOldDebtsSpec : ChangeSpec := { name := "fnOldDebts", fn := fun _ => fun
  | [d] => { results := [.lit (.bool true)], args := [d] }
  | _ => none }
def fnOldDebtsRow : OpenClaim := { program := "ytpdddadplagcpaa", sum := "5e9a37c53a264be3f12f99f571fbc21b0c3e38ff659c4c5bdc22e0330570f55f", func := "loop.example/transitfares/laws.FnOldDebts", spec := "fnOldDebts", unfollowed := true, recurses := true, apart := false }
def FnOldDebtsSaid : Prop := fnOldDebtsRow.holds Try.pinned (OpenSpec.ofChange fnOldDebtsSpec)

/-- ITS FALSE NEIGHBOUR: 'it returns false'. Refute it at one input. -/
def fnOldDebtsWrong : ChangeSpec := { name := "fnOldDebts", fn := fun _ => fun
  | [d] => { results := [.lit (.bool false)], args := [d] }
  | _ => none }
def FnOldDebtsWrongFalsely : Prop := fnOldDebtsRow.holds Try.pinned (OpenSpec.ofChange fnOldDebtsWrong)

/-- 'laws.FnAddDebtPay': WHATEVER THE INPUT: true; the input reads as it did. -/
def fnAddDebtPaySpec : ChangeSpec := { name := "fnAddDebtPay", fn := fun _ => fun
  | [d] => { results := [.lit (.bool true)], args := [d] }
  | _ => none }
def fnAddDebtPayRow : OpenClaim := { program := "ytpdddadplagcpaa", sum := "5e9a37c53a264be3f12f99f571fbc21b0c3e38ff659c4c5bdc22e0330570f55f", func := "loop.example/transitfares/laws.FnAddDebtPay", spec := "fnAddDebtPay", inPlace := ["slices.overlaps[loop.example/transitfares/impl.Debt]"], unfollowed := true, recurses := true, apart := false }
def FnAddDebtPaySaid : Prop := fnAddDebtPayRow.holds Try.pinned (OpenSpec.ofChange fnAddDebtPaySpec)

/-- ITS FALSE NEIGHBOUR: 'it returns false'. Refute it at one input. -/
def fnAddDebtPayWrong : ChangeSpec := { name := "fnAddDebtPay", fn := fun _ => fun
  | [d] => { results := [.lit (.bool false)], args := [d] }
  | _ => none }
def FnAddDebtPayWrongFalsely : Prop := fnAddDebtPayRow.holds Try.pinned (OpenSpec.ofChange fnAddDebtPayWrong)

/-- 'laws.FnOldDebtsMore': WHATEVER THE INPUT: true; the input reads as it did. -/
def fnOldDebtsMoreSpec : ChangeSpec := { name := "fnOldDebtsMore", fn := fun _ => fun
  | [d] => { results := [.lit (.bool true)], args := [d] }
  | _ => none }
def fnOldDebtsMoreRow : OpenClaim := { program := "ytpdddadplagcpaa", sum := "5e9a37c53a264be3f12f99f571fbc21b0c3e38ff659c4c5bdc22e0330570f55f", func := "loop.example/transitfares/laws.FnOldDebtsMore", spec := "fnOldDebtsMore", unfollowed := true, recurses := true, apart := false }
def FnOldDebtsMoreSaid : Prop := fnOldDebtsMoreRow.holds Try.pinned (OpenSpec.ofChange fnOldDebtsMoreSpec)

/-- ITS FALSE NEIGHBOUR: 'it returns false'. Refute it at one input. -/
def fnOldDebtsMoreWrong : ChangeSpec := { name := "fnOldDebtsMore", fn := fun _ => fun
  | [d] => { results := [.lit (.bool false)], args := [d] }
  | _ => none }
def FnOldDebtsMoreWrongFalsely : Prop := fnOldDebtsMoreRow.holds Try.pinned (OpenSpec.ofChange fnOldDebtsMoreWrong)

/-- 'laws.FnExactValidDebts': WHATEVER THE INPUT: true; the input reads as it did. -/
def fnExactValidDebtsSpec : ChangeSpec := { name := "fnExactValidDebts", fn := fun _ => fun
  | [d] => { results := [.lit (.bool true)], args := [d] }
  | _ => none }
def fnExactValidDebtsRow : OpenClaim := { program := "ytpdddadplagcpaa", sum := "5e9a37c53a264be3f12f99f571fbc21b0c3e38ff659c4c5bdc22e0330570f55f", func := "loop.example/transitfares/laws.FnExactValidDebts", spec := "fnExactValidDebts", apart := false }
def FnExactValidDebtsSaid : Prop := fnExactValidDebtsRow.holds Try.pinned (OpenSpec.ofChange fnExactValidDebtsSpec)

/-- ITS FALSE NEIGHBOUR: 'it returns false'. Refute it at one input. -/
def fnExactValidDebtsWrong : ChangeSpec := { name := "fnExactValidDebts", fn := fun _ => fun
  | [d] => { results := [.lit (.bool false)], args := [d] }
  | _ => none }
def FnExactValidDebtsWrongFalsely : Prop := fnExactValidDebtsRow.holds Try.pinned (OpenSpec.ofChange fnExactValidDebtsWrong)

/-- 'laws.FnExactDebtOf': WHATEVER THE INPUT: true; the input reads as it did. -/
def fnExactDebtOfSpec : ChangeSpec := { name := "fnExactDebtOf", fn := fun _ => fun
  | [d] => { results := [.lit (.bool true)], args := [d] }
  | _ => none }
def fnExactDebtOfRow : OpenClaim := { program := "ytpdddadplagcpaa", sum := "5e9a37c53a264be3f12f99f571fbc21b0c3e38ff659c4c5bdc22e0330570f55f", func := "loop.example/transitfares/laws.FnExactDebtOf", spec := "fnExactDebtOf", apart := false }
def FnExactDebtOfSaid : Prop := fnExactDebtOfRow.holds Try.pinned (OpenSpec.ofChange fnExactDebtOfSpec)

/-- ITS FALSE NEIGHBOUR: 'it returns false'. Refute it at one input. -/
def fnExactDebtOfWrong : ChangeSpec := { name := "fnExactDebtOf", fn := fun _ => fun
  | [d] => { results := [.lit (.bool false)], args := [d] }
  | _ => none }
def FnExactDebtOfWrongFalsely : Prop := fnExactDebtOfRow.holds Try.pinned (OpenSpec.ofChange fnExactDebtOfWrong)

/-- 'laws.FnExactAddDebt': WHATEVER THE INPUT: true; the input reads as it did. -/
def fnExactAddDebtSpec : ChangeSpec := { name := "fnExactAddDebt", fn := fun _ => fun
  | [d1, d2, d3] => { results := [.lit (.bool true)], args := [d1, d2, d3] }
  | _ => none }
def fnExactAddDebtRow : OpenClaim := { program := "ytpdddadplagcpaa", sum := "5e9a37c53a264be3f12f99f571fbc21b0c3e38ff659c4c5bdc22e0330570f55f", func := "loop.example/transitfares/laws.FnExactAddDebt", spec := "fnExactAddDebt", inPlace := ["slices.overlaps[loop.example/transitfares/impl.Debt]"], unfollowed := true, recurses := true, apart := false }
def FnExactAddDebtSaid : Prop := fnExactAddDebtRow.holds Try.pinned (OpenSpec.ofChange fnExactAddDebtSpec)

/-- ITS FALSE NEIGHBOUR: 'it returns false'. Refute it at one input. -/
def fnExactAddDebtWrong : ChangeSpec := { name := "fnExactAddDebt", fn := fun _ => fun
  | [d1, d2, d3] => { results := [.lit (.bool false)], args := [d1, d2, d3] }
  | _ => none }
def FnExactAddDebtWrongFalsely : Prop := fnExactAddDebtRow.holds Try.pinned (OpenSpec.ofChange fnExactAddDebtWrong)

/-- 'laws.FnExactPayDebts': WHATEVER THE INPUT: true; the input reads as it did. -/
def fnExactPayDebtsSpec : ChangeSpec := { name := "fnExactPayDebts", fn := fun _ => fun
  | [d1, d2] => { results := [.lit (.bool true)], args := [d1, d2] }
  | _ => none }
def fnExactPayDebtsRow : OpenClaim := { program := "ytpdddadplagcpaa", sum := "5e9a37c53a264be3f12f99f571fbc21b0c3e38ff659c4c5bdc22e0330570f55f", func := "loop.example/transitfares/laws.FnExactPayDebts", spec := "fnExactPayDebts", apart := false }
def FnExactPayDebtsSaid : Prop := fnExactPayDebtsRow.holds Try.pinned (OpenSpec.ofChange fnExactPayDebtsSpec)

/-- ITS FALSE NEIGHBOUR: 'it returns false'. Refute it at one input. -/
def fnExactPayDebtsWrong : ChangeSpec := { name := "fnExactPayDebts", fn := fun _ => fun
  | [d1, d2] => { results := [.lit (.bool false)], args := [d1, d2] }
  | _ => none }
def FnExactPayDebtsWrongFalsely : Prop := fnExactPayDebtsRow.holds Try.pinned (OpenSpec.ofChange fnExactPayDebtsWrong)

/-- 'laws.FnExactOldDebts': WHATEVER THE INPUT: true; the input reads as it did. -/
def fnExactOldDebtsSpec : ChangeSpec := { name := "fnExactOldDebts", fn := fun _ => fun
  | [d1, d2] => { results := [.lit (.bool true)], args := [d1, d2] }
  | _ => none }
def fnExactOldDebtsRow : OpenClaim := { program := "ytpdddadplagcpaa", sum := "5e9a37c53a264be3f12f99f571fbc21b0c3e38ff659c4c5bdc22e0330570f55f", func := "loop.example/transitfares/laws.FnExactOldDebts", spec := "fnExactOldDebts", unfollowed := true, recurses := true, apart := false }
def FnExactOldDebtsSaid : Prop := fnExactOldDebtsRow.holds Try.pinned (OpenSpec.ofChange fnExactOldDebtsSpec)

/-- ITS FALSE NEIGHBOUR: 'it returns false'. Refute it at one input. -/
def fnExactOldDebtsWrong : ChangeSpec := { name := "fnExactOldDebts", fn := fun _ => fun
  | [d1, d2] => { results := [.lit (.bool false)], args := [d1, d2] }
  | _ => none }
def FnExactOldDebtsWrongFalsely : Prop := fnExactOldDebtsRow.holds Try.pinned (OpenSpec.ofChange fnExactOldDebtsWrong)

/- THE SECOND FORM. 'bulk': how many values and letters a reading holds, each counted each time it is reached (what is shared counts as often as it is met; a slice's spare places count too). A statement '..UptoSaid' is the law's where the arguments, and the package variables that the reading takes, are together of bulk at most 1048576: NARROWER than '..Said'. Prove '..Said' where nothing that the law and all that it calls make is longer than what came in: it says more and counts as full. Else prove '..UptoSaid'. A law counts once. -/
mutual
def uptoBulk {H : Type} : DataW H → Nat
  | .lit (.string bytes) => bytes.length + 1
  | .lit _ => 1
  | .nil => 1
  | .ptr d => uptoBulk d + 1
  | .slice elems spare => uptoBulkAll elems + uptoBulkAll spare + 1
  | .agg parts => uptoBulkAll parts + 1
  | .iface _ d => uptoBulk d + 1
  | .map entries => uptoBulkEntries entries + 1
  | .held _ => 1
def uptoBulkAll {H : Type} : List (DataW H) → Nat
  | [] => 0
  | d :: r => uptoBulk d + uptoBulkAll r
def uptoBulkEntries {H : Type} : List (Lit × DataW H) → Nat
  | [] => 0
  | x :: r => uptoBulkEntry x + uptoBulkEntries r
def uptoBulkEntry {H : Type} : Lit × DataW H → Nat
  | (.string bytes, d) => bytes.length + uptoBulk d + 1
  | (_, d) => uptoBulk d + 1
 end
def uptoSmall : (H : Type) → List (DataW H) → Bool := fun _ ds => decide (uptoBulkAll ds ≤ 1048576)
def OpenSpec.upto (s : _root_.Go.ChangeSpec) : _root_.Go.OpenSpec := { _root_.Go.OpenSpec.ofChange s with cond := some uptoSmall }

/-- 'laws.FnValidDebts', WHERE WHAT IT READS IS OF BULK AT MOST 1048576: true; the input reads as it did. -/
def fnValidDebtsUptoRow : OpenClaim := { program := "ytpdddadplagcpaa", sum := "5e9a37c53a264be3f12f99f571fbc21b0c3e38ff659c4c5bdc22e0330570f55f", func := "loop.example/transitfares/laws.FnValidDebts", spec := "fnValidDebts", apart := false, narrowed := true }
def FnValidDebtsUptoSaid : Prop := fnValidDebtsUptoRow.holds Try.pinned (OpenSpec.upto fnValidDebtsSpec)

/-- 'laws.FnDebtOf', WHERE WHAT IT READS IS OF BULK AT MOST 1048576: true; the input reads as it did. -/
def fnDebtOfUptoRow : OpenClaim := { program := "ytpdddadplagcpaa", sum := "5e9a37c53a264be3f12f99f571fbc21b0c3e38ff659c4c5bdc22e0330570f55f", func := "loop.example/transitfares/laws.FnDebtOf", spec := "fnDebtOf", apart := false, narrowed := true }
def FnDebtOfUptoSaid : Prop := fnDebtOfUptoRow.holds Try.pinned (OpenSpec.upto fnDebtOfSpec)

/-- 'laws.FnAddDebt', WHERE WHAT IT READS IS OF BULK AT MOST 1048576: true; the input reads as it did. -/
def fnAddDebtUptoRow : OpenClaim := { program := "ytpdddadplagcpaa", sum := "5e9a37c53a264be3f12f99f571fbc21b0c3e38ff659c4c5bdc22e0330570f55f", func := "loop.example/transitfares/laws.FnAddDebt", spec := "fnAddDebt", inPlace := ["slices.overlaps[loop.example/transitfares/impl.Debt]"], unfollowed := true, recurses := true, apart := false, narrowed := true }
def FnAddDebtUptoSaid : Prop := fnAddDebtUptoRow.holds Try.pinned (OpenSpec.upto fnAddDebtSpec)

/-- 'laws.FnAddDebtOrder', WHERE WHAT IT READS IS OF BULK AT MOST 1048576: true; the input reads as it did. -/
def fnAddDebtOrderUptoRow : OpenClaim := { program := "ytpdddadplagcpaa", sum := "5e9a37c53a264be3f12f99f571fbc21b0c3e38ff659c4c5bdc22e0330570f55f", func := "loop.example/transitfares/laws.FnAddDebtOrder", spec := "fnAddDebtOrder", inPlace := ["slices.overlaps[loop.example/transitfares/impl.Debt]"], unfollowed := true, recurses := true, apart := false, narrowed := true }
def FnAddDebtOrderUptoSaid : Prop := fnAddDebtOrderUptoRow.holds Try.pinned (OpenSpec.upto fnAddDebtOrderSpec)

/-- 'laws.FnPayDebts', WHERE WHAT IT READS IS OF BULK AT MOST 1048576: true; the input reads as it did. -/
def fnPayDebtsUptoRow : OpenClaim := { program := "ytpdddadplagcpaa", sum := "5e9a37c53a264be3f12f99f571fbc21b0c3e38ff659c4c5bdc22e0330570f55f", func := "loop.example/transitfares/laws.FnPayDebts", spec := "fnPayDebts", apart := false, narrowed := true }
def FnPayDebtsUptoSaid : Prop := fnPayDebtsUptoRow.holds Try.pinned (OpenSpec.upto fnPayDebtsSpec)

/-- 'laws.FnPayDebtsOld', WHERE WHAT IT READS IS OF BULK AT MOST 1048576: true; the input reads as it did. -/
def fnPayDebtsOldUptoRow : OpenClaim := { program := "ytpdddadplagcpaa", sum := "5e9a37c53a264be3f12f99f571fbc21b0c3e38ff659c4c5bdc22e0330570f55f", func := "loop.example/transitfares/laws.FnPayDebtsOld", spec := "fnPayDebtsOld", apart := false, narrowed := true }
def FnPayDebtsOldUptoSaid : Prop := fnPayDebtsOldUptoRow.holds Try.pinned (OpenSpec.upto fnPayDebtsOldSpec)

/-- 'laws.FnPayDebtsTwice', WHERE WHAT IT READS IS OF BULK AT MOST 1048576: true; the input reads as it did. -/
def fnPayDebtsTwiceUptoRow : OpenClaim := { program := "ytpdddadplagcpaa", sum := "5e9a37c53a264be3f12f99f571fbc21b0c3e38ff659c4c5bdc22e0330570f55f", func := "loop.example/transitfares/laws.FnPayDebtsTwice", spec := "fnPayDebtsTwice", apart := false, narrowed := true }
def FnPayDebtsTwiceUptoSaid : Prop := fnPayDebtsTwiceUptoRow.holds Try.pinned (OpenSpec.upto fnPayDebtsTwiceSpec)

/-- 'laws.FnOldDebts', WHERE WHAT IT READS IS OF BULK AT MOST 1048576: true; the input reads as it did. -/
def fnOldDebtsUptoRow : OpenClaim := { program := "ytpdddadplagcpaa", sum := "5e9a37c53a264be3f12f99f571fbc21b0c3e38ff659c4c5bdc22e0330570f55f", func := "loop.example/transitfares/laws.FnOldDebts", spec := "fnOldDebts", unfollowed := true, recurses := true, apart := false, narrowed := true }
def FnOldDebtsUptoSaid : Prop := fnOldDebtsUptoRow.holds Try.pinned (OpenSpec.upto fnOldDebtsSpec)

/-- 'laws.FnAddDebtPay', WHERE WHAT IT READS IS OF BULK AT MOST 1048576: true; the input reads as it did. -/
def fnAddDebtPayUptoRow : OpenClaim := { program := "ytpdddadplagcpaa", sum := "5e9a37c53a264be3f12f99f571fbc21b0c3e38ff659c4c5bdc22e0330570f55f", func := "loop.example/transitfares/laws.FnAddDebtPay", spec := "fnAddDebtPay", inPlace := ["slices.overlaps[loop.example/transitfares/impl.Debt]"], unfollowed := true, recurses := true, apart := false, narrowed := true }
def FnAddDebtPayUptoSaid : Prop := fnAddDebtPayUptoRow.holds Try.pinned (OpenSpec.upto fnAddDebtPaySpec)

/-- 'laws.FnOldDebtsMore', WHERE WHAT IT READS IS OF BULK AT MOST 1048576: true; the input reads as it did. -/
def fnOldDebtsMoreUptoRow : OpenClaim := { program := "ytpdddadplagcpaa", sum := "5e9a37c53a264be3f12f99f571fbc21b0c3e38ff659c4c5bdc22e0330570f55f", func := "loop.example/transitfares/laws.FnOldDebtsMore", spec := "fnOldDebtsMore", unfollowed := true, recurses := true, apart := false, narrowed := true }
def FnOldDebtsMoreUptoSaid : Prop := fnOldDebtsMoreUptoRow.holds Try.pinned (OpenSpec.upto fnOldDebtsMoreSpec)

/-- 'laws.FnExactValidDebts', WHERE WHAT IT READS IS OF BULK AT MOST 1048576: true; the input reads as it did. -/
def fnExactValidDebtsUptoRow : OpenClaim := { program := "ytpdddadplagcpaa", sum := "5e9a37c53a264be3f12f99f571fbc21b0c3e38ff659c4c5bdc22e0330570f55f", func := "loop.example/transitfares/laws.FnExactValidDebts", spec := "fnExactValidDebts", apart := false, narrowed := true }
def FnExactValidDebtsUptoSaid : Prop := fnExactValidDebtsUptoRow.holds Try.pinned (OpenSpec.upto fnExactValidDebtsSpec)

/-- 'laws.FnExactDebtOf', WHERE WHAT IT READS IS OF BULK AT MOST 1048576: true; the input reads as it did. -/
def fnExactDebtOfUptoRow : OpenClaim := { program := "ytpdddadplagcpaa", sum := "5e9a37c53a264be3f12f99f571fbc21b0c3e38ff659c4c5bdc22e0330570f55f", func := "loop.example/transitfares/laws.FnExactDebtOf", spec := "fnExactDebtOf", apart := false, narrowed := true }
def FnExactDebtOfUptoSaid : Prop := fnExactDebtOfUptoRow.holds Try.pinned (OpenSpec.upto fnExactDebtOfSpec)

/-- 'laws.FnExactAddDebt', WHERE WHAT IT READS IS OF BULK AT MOST 1048576: true; the input reads as it did. -/
def fnExactAddDebtUptoRow : OpenClaim := { program := "ytpdddadplagcpaa", sum := "5e9a37c53a264be3f12f99f571fbc21b0c3e38ff659c4c5bdc22e0330570f55f", func := "loop.example/transitfares/laws.FnExactAddDebt", spec := "fnExactAddDebt", inPlace := ["slices.overlaps[loop.example/transitfares/impl.Debt]"], unfollowed := true, recurses := true, apart := false, narrowed := true }
def FnExactAddDebtUptoSaid : Prop := fnExactAddDebtUptoRow.holds Try.pinned (OpenSpec.upto fnExactAddDebtSpec)

/-- 'laws.FnExactPayDebts', WHERE WHAT IT READS IS OF BULK AT MOST 1048576: true; the input reads as it did. -/
def fnExactPayDebtsUptoRow : OpenClaim := { program := "ytpdddadplagcpaa", sum := "5e9a37c53a264be3f12f99f571fbc21b0c3e38ff659c4c5bdc22e0330570f55f", func := "loop.example/transitfares/laws.FnExactPayDebts", spec := "fnExactPayDebts", apart := false, narrowed := true }
def FnExactPayDebtsUptoSaid : Prop := fnExactPayDebtsUptoRow.holds Try.pinned (OpenSpec.upto fnExactPayDebtsSpec)

/-- 'laws.FnExactOldDebts', WHERE WHAT IT READS IS OF BULK AT MOST 1048576: true; the input reads as it did. -/
def fnExactOldDebtsUptoRow : OpenClaim := { program := "ytpdddadplagcpaa", sum := "5e9a37c53a264be3f12f99f571fbc21b0c3e38ff659c4c5bdc22e0330570f55f", func := "loop.example/transitfares/laws.FnExactOldDebts", spec := "fnExactOldDebts", unfollowed := true, recurses := true, apart := false, narrowed := true }
def FnExactOldDebtsUptoSaid : Prop := fnExactOldDebtsUptoRow.holds Try.pinned (OpenSpec.upto fnExactOldDebtsSpec)

end Rows
end Go.Proofs.Ytpdddadplagcpaa
