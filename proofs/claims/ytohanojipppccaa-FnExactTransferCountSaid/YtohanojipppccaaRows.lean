/-
  No cell of these rows narrows 'for every input' (looked for: loops, veiled, ifaces, maps, wideKeys, modest, calm, conditions, laid).
  DERIVED. THE GIVEN ROWS OF THIS SEAT. 4 by the template 'for every input the law returns true; each argument reads behind the call as it read before'; 0 by the template 'total and deterministic' (their statements: YtohanojipppccaaTotals.lean).
  GIVEN WITH THE SEED: the statements are not yours to turn. If you find one false, say at which input.
  Laid BY PROGRAM, IN A SANDBOX (cutbox-rows.mjs): the forced cells as the released guide's own fill.sh prints them over the translation 94a527519de73391… (all of the seat's roots in one cut). By AI agents, Wed Nov 11 2026. No macro, syntax, notation, axiom, sorry.
-/
import Derived.Test.YtohanojipppccaaChecked
import GoSem.Claim
import GoSem.ClaimJoined
import GoSem.ClaimMapViews
import Derived.JoinedTies
import Derived.KernelRfl
namespace Go.Proofs.Ytohanojipppccaa
/- THE CELL 'sum', in the pinned program and in every row, IS THE sha256 OF THE DUMP (.gsa) THAT YtohanojipppccaaProg.lean LOADS. Nothing in Lean hashes anything: it is a label: what it is worth is what the hold of that sum in a sandbox is worth. -/
noncomputable def Try.pinned : Pinned := { name := "ytohanojipppccaa", sum := "94a527519de733912162e78f98375694ecb6a6a46a0ef0fe3dc95a25b1d3b303", checked := Try.checked }
namespace Rows
def none {H : Type} : Left H := { results := [], args := [] }

/-- 'laws.FnExactPricesOf': WHATEVER THE INPUT: true; the input reads as it did. -/
def fnExactPricesOfSpec : ChangeSpec := { name := "fnExactPricesOf", fn := fun _ => fun
  | [d1, d2] => { results := [.lit (.bool true)], args := [d1, d2] }
  | _ => none }
def fnExactPricesOfRow : OpenClaim := { program := "ytohanojipppccaa", sum := "94a527519de733912162e78f98375694ecb6a6a46a0ef0fe3dc95a25b1d3b303", func := "loop.example/transitfares/laws.FnExactPricesOf", spec := "fnExactPricesOf", apart := false }
def FnExactPricesOfSaid : Prop := fnExactPricesOfRow.holds Try.pinned (OpenSpec.ofChange fnExactPricesOfSpec)

/-- ITS FALSE NEIGHBOUR: 'it returns false'. Refute it at one input. -/
def fnExactPricesOfWrong : ChangeSpec := { name := "fnExactPricesOf", fn := fun _ => fun
  | [d1, d2] => { results := [.lit (.bool false)], args := [d1, d2] }
  | _ => none }
def FnExactPricesOfWrongFalsely : Prop := fnExactPricesOfRow.holds Try.pinned (OpenSpec.ofChange fnExactPricesOfWrong)

/-- 'laws.FnExactLinkedPrices': WHATEVER THE INPUT: true; the input reads as it did. -/
def fnExactLinkedPricesSpec : ChangeSpec := { name := "fnExactLinkedPrices", fn := fun _ => fun
  | [d1, d2, d3] => { results := [.lit (.bool true)], args := [d1, d2, d3] }
  | _ => none }
def fnExactLinkedPricesRow : OpenClaim := { program := "ytohanojipppccaa", sum := "94a527519de733912162e78f98375694ecb6a6a46a0ef0fe3dc95a25b1d3b303", func := "loop.example/transitfares/laws.FnExactLinkedPrices", spec := "fnExactLinkedPrices", unfollowed := true, recurses := true, apart := false }
def FnExactLinkedPricesSaid : Prop := fnExactLinkedPricesRow.holds Try.pinned (OpenSpec.ofChange fnExactLinkedPricesSpec)

/-- ITS FALSE NEIGHBOUR: 'it returns false'. Refute it at one input. -/
def fnExactLinkedPricesWrong : ChangeSpec := { name := "fnExactLinkedPrices", fn := fun _ => fun
  | [d1, d2, d3] => { results := [.lit (.bool false)], args := [d1, d2, d3] }
  | _ => none }
def FnExactLinkedPricesWrongFalsely : Prop := fnExactLinkedPricesRow.holds Try.pinned (OpenSpec.ofChange fnExactLinkedPricesWrong)

/-- 'laws.FnExactTransferCount': WHATEVER THE INPUT: true; the input reads as it did. -/
def fnExactTransferCountSpec : ChangeSpec := { name := "fnExactTransferCount", fn := fun _ => fun
  | [d1, d2] => { results := [.lit (.bool true)], args := [d1, d2] }
  | _ => none }
def fnExactTransferCountRow : OpenClaim := { program := "ytohanojipppccaa", sum := "94a527519de733912162e78f98375694ecb6a6a46a0ef0fe3dc95a25b1d3b303", func := "loop.example/transitfares/laws.FnExactTransferCount", spec := "fnExactTransferCount", unfollowed := true, recurses := true, apart := false }
def FnExactTransferCountSaid : Prop := fnExactTransferCountRow.holds Try.pinned (OpenSpec.ofChange fnExactTransferCountSpec)

/-- ITS FALSE NEIGHBOUR: 'it returns false'. Refute it at one input. -/
def fnExactTransferCountWrong : ChangeSpec := { name := "fnExactTransferCount", fn := fun _ => fun
  | [d1, d2] => { results := [.lit (.bool false)], args := [d1, d2] }
  | _ => none }
def FnExactTransferCountWrongFalsely : Prop := fnExactTransferCountRow.holds Try.pinned (OpenSpec.ofChange fnExactTransferCountWrong)

/-- 'laws.FnExactCardsOf': WHATEVER THE INPUT: true; the input reads as it did. -/
def fnExactCardsOfSpec : ChangeSpec := { name := "fnExactCardsOf", fn := fun _ => fun
  | [d] => { results := [.lit (.bool true)], args := [d] }
  | _ => none }
def fnExactCardsOfRow : OpenClaim := { program := "ytohanojipppccaa", sum := "94a527519de733912162e78f98375694ecb6a6a46a0ef0fe3dc95a25b1d3b303", func := "loop.example/transitfares/laws.FnExactCardsOf", spec := "fnExactCardsOf", recurses := true, apart := false }
def FnExactCardsOfSaid : Prop := fnExactCardsOfRow.holds Try.pinned (OpenSpec.ofChange fnExactCardsOfSpec)

/-- ITS FALSE NEIGHBOUR: 'it returns false'. Refute it at one input. -/
def fnExactCardsOfWrong : ChangeSpec := { name := "fnExactCardsOf", fn := fun _ => fun
  | [d] => { results := [.lit (.bool false)], args := [d] }
  | _ => none }
def FnExactCardsOfWrongFalsely : Prop := fnExactCardsOfRow.holds Try.pinned (OpenSpec.ofChange fnExactCardsOfWrong)

/- THE SECOND FORM. 'bulk': how many values and letters a reading holds, each counted each time it is reached (what is shared counts as often as it is met; a slice's spare places count too). A statement '..UptoSaid' is the law's where the arguments, and the package variables that the reading takes, are together of bulk at most 1048576: NARROWER than '..Said'. Prove '..Said' where nothing that the law and all that it calls make is longer than what came in: it says more and counts as full. Else prove '..UptoSaid'. A law counts once. -/
mutual
def uptoBulk {H : Type} : DataW H → Nat
  | .lit (.string bytes) => bytes.length + 1
  | .lit _ => 1
  | .nil => 1
  | .ptr d => uptoBulk d + 1
  | .slice elems spare => uptoBulkAll elems + uptoBulkAll spare + 1
  | .agg parts => uptoBulkAll parts + 1
  | .iface _ d => uptoBulk d + 1
  | .map entries => uptoBulkEntries entries + 1
  | .held _ => 1
def uptoBulkAll {H : Type} : List (DataW H) → Nat
  | [] => 0
  | d :: r => uptoBulk d + uptoBulkAll r
def uptoBulkEntries {H : Type} : List (Lit × DataW H) → Nat
  | [] => 0
  | x :: r => uptoBulkEntry x + uptoBulkEntries r
def uptoBulkEntry {H : Type} : Lit × DataW H → Nat
  | (.string bytes, d) => bytes.length + uptoBulk d + 1
  | (_, d) => uptoBulk d + 1
 end
def uptoSmall : (H : Type) → List (DataW H) → Bool := fun _ ds => decide (uptoBulkAll ds ≤ 1048576)
def OpenSpec.upto (s : _root_.Go.ChangeSpec) : _root_.Go.OpenSpec := { _root_.Go.OpenSpec.ofChange s with cond := some uptoSmall }

/-- 'laws.FnExactPricesOf', WHERE WHAT IT READS IS OF BULK AT MOST 1048576: true; the input reads as it did. -/
def fnExactPricesOfUptoRow : OpenClaim := { program := "ytohanojipppccaa", sum := "94a527519de733912162e78f98375694ecb6a6a46a0ef0fe3dc95a25b1d3b303", func := "loop.example/transitfares/laws.FnExactPricesOf", spec := "fnExactPricesOf", apart := false, narrowed := true }
def FnExactPricesOfUptoSaid : Prop := fnExactPricesOfUptoRow.holds Try.pinned (OpenSpec.upto fnExactPricesOfSpec)

/-- 'laws.FnExactLinkedPrices', WHERE WHAT IT READS IS OF BULK AT MOST 1048576: true; the input reads as it did. -/
def fnExactLinkedPricesUptoRow : OpenClaim := { program := "ytohanojipppccaa", sum := "94a527519de733912162e78f98375694ecb6a6a46a0ef0fe3dc95a25b1d3b303", func := "loop.example/transitfares/laws.FnExactLinkedPrices", spec := "fnExactLinkedPrices", unfollowed := true, recurses := true, apart := false, narrowed := true }
def FnExactLinkedPricesUptoSaid : Prop := fnExactLinkedPricesUptoRow.holds Try.pinned (OpenSpec.upto fnExactLinkedPricesSpec)

/-- 'laws.FnExactTransferCount', WHERE WHAT IT READS IS OF BULK AT MOST 1048576: true; the input reads as it did. -/
def fnExactTransferCountUptoRow : OpenClaim := { program := "ytohanojipppccaa", sum := "94a527519de733912162e78f98375694ecb6a6a46a0ef0fe3dc95a25b1d3b303", func := "loop.example/transitfares/laws.FnExactTransferCount", spec := "fnExactTransferCount", unfollowed := true, recurses := true, apart := false, narrowed := true }
def FnExactTransferCountUptoSaid : Prop := fnExactTransferCountUptoRow.holds Try.pinned (OpenSpec.upto fnExactTransferCountSpec)

/-- 'laws.FnExactCardsOf', WHERE WHAT IT READS IS OF BULK AT MOST 1048576: true; the input reads as it did. -/
def fnExactCardsOfUptoRow : OpenClaim := { program := "ytohanojipppccaa", sum := "94a527519de733912162e78f98375694ecb6a6a46a0ef0fe3dc95a25b1d3b303", func := "loop.example/transitfares/laws.FnExactCardsOf", spec := "fnExactCardsOf", recurses := true, apart := false, narrowed := true }
def FnExactCardsOfUptoSaid : Prop := fnExactCardsOfUptoRow.holds Try.pinned (OpenSpec.upto fnExactCardsOfSpec)

end Rows
end Go.Proofs.Ytohanojipppccaa
