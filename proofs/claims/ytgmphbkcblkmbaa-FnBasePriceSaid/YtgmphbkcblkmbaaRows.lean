/-
  No cell of these rows narrows 'for every input' (looked for: loops, veiled, ifaces, maps, wideKeys, modest, calm, conditions, laid).
  DERIVED. THE GIVEN ROWS OF THIS SEAT. 21 by the template 'for every input the law returns true; each argument reads behind the call as it read before'; 0 by the template 'total and deterministic' (their statements: YtgmphbkcblkmbaaTotals.lean).
  GIVEN WITH THE SEED: the statements are not yours to turn. If you find one false, say at which input.
  Laid BY PROGRAM, IN A SANDBOX (cutbox-rows.mjs): the forced cells as the released guide's own fill.sh prints them over the translation da862ba40d4ab9f8… (all of the seat's roots in one cut). By AI agents, Wed Nov 11 2026. No macro, syntax, notation, axiom, sorry.
-/
import Derived.Test.YtgmphbkcblkmbaaChecked
import GoSem.Claim
import GoSem.ClaimJoined
import GoSem.ClaimMapViews
import Derived.JoinedTies
import Derived.KernelRfl
namespace Go.Proofs.Ytgmphbkcblkmbaa
/- THE CELL 'sum', in the pinned program and in every row, IS THE sha256 OF THE DUMP (.gsa) THAT YtgmphbkcblkmbaaProg.lean LOADS. Nothing in Lean hashes anything: it is a label: what it is worth is what the hold of that sum in a sandbox is worth. -/
noncomputable def Try.pinned : Pinned := { name := "ytgmphbkcblkmbaa", sum := "da862ba40d4ab9f8cf39045a0fef39a204295a2d360a10a7e9690bc2b098ba1d", checked := Try.checked }
namespace Rows
def none {H : Type} : Left H := { results := [], args := [] }

/-- 'laws.FnValidTariff': WHATEVER THE INPUT: true; the input reads as it did. -/
def fnValidTariffSpec : ChangeSpec := { name := "fnValidTariff", fn := fun _ => fun
  | [d] => { results := [.lit (.bool true)], args := [d] }
  | _ => none }
def fnValidTariffRow : OpenClaim := { program := "ytgmphbkcblkmbaa", sum := "da862ba40d4ab9f8cf39045a0fef39a204295a2d360a10a7e9690bc2b098ba1d", func := "loop.example/transitfares/laws.FnValidTariff", spec := "fnValidTariff", apart := false }
def FnValidTariffSaid : Prop := fnValidTariffRow.holds Try.pinned (OpenSpec.ofChange fnValidTariffSpec)

/-- ITS FALSE NEIGHBOUR: 'it returns false'. Refute it at one input. -/
def fnValidTariffWrong : ChangeSpec := { name := "fnValidTariff", fn := fun _ => fun
  | [d] => { results := [.lit (.bool false)], args := [d] }
  | _ => none }
def FnValidTariffWrongFalsely : Prop := fnValidTariffRow.holds Try.pinned (OpenSpec.ofChange fnValidTariffWrong)

/-- 'laws.FnBasePrice': WHATEVER THE INPUT: true; the input reads as it did. -/
def fnBasePriceSpec : ChangeSpec := { name := "fnBasePrice", fn := fun _ => fun
  | [d] => { results := [.lit (.bool true)], args := [d] }
  | _ => none }
def fnBasePriceRow : OpenClaim := { program := "ytgmphbkcblkmbaa", sum := "da862ba40d4ab9f8cf39045a0fef39a204295a2d360a10a7e9690bc2b098ba1d", func := "loop.example/transitfares/laws.FnBasePrice", spec := "fnBasePrice", apart := false }
def FnBasePriceSaid : Prop := fnBasePriceRow.holds Try.pinned (OpenSpec.ofChange fnBasePriceSpec)

/-- ITS FALSE NEIGHBOUR: 'it returns false'. Refute it at one input. -/
def fnBasePriceWrong : ChangeSpec := { name := "fnBasePrice", fn := fun _ => fun
  | [d] => { results := [.lit (.bool false)], args := [d] }
  | _ => none }
def FnBasePriceWrongFalsely : Prop := fnBasePriceRow.holds Try.pinned (OpenSpec.ofChange fnBasePriceWrong)

/-- 'laws.FnFareOf': WHATEVER THE INPUT: true; the input reads as it did. -/
def fnFareOfSpec : ChangeSpec := { name := "fnFareOf", fn := fun _ => fun
  | [d] => { results := [.lit (.bool true)], args := [d] }
  | _ => none }
def fnFareOfRow : OpenClaim := { program := "ytgmphbkcblkmbaa", sum := "da862ba40d4ab9f8cf39045a0fef39a204295a2d360a10a7e9690bc2b098ba1d", func := "loop.example/transitfares/laws.FnFareOf", spec := "fnFareOf", apart := false }
def FnFareOfSaid : Prop := fnFareOfRow.holds Try.pinned (OpenSpec.ofChange fnFareOfSpec)

/-- ITS FALSE NEIGHBOUR: 'it returns false'. Refute it at one input. -/
def fnFareOfWrong : ChangeSpec := { name := "fnFareOf", fn := fun _ => fun
  | [d] => { results := [.lit (.bool false)], args := [d] }
  | _ => none }
def FnFareOfWrongFalsely : Prop := fnFareOfRow.holds Try.pinned (OpenSpec.ofChange fnFareOfWrong)

/-- 'laws.FnFareOfPeaks': WHATEVER THE INPUT: true; the input reads as it did. -/
def fnFareOfPeaksSpec : ChangeSpec := { name := "fnFareOfPeaks", fn := fun _ => fun
  | [d] => { results := [.lit (.bool true)], args := [d] }
  | _ => none }
def fnFareOfPeaksRow : OpenClaim := { program := "ytgmphbkcblkmbaa", sum := "da862ba40d4ab9f8cf39045a0fef39a204295a2d360a10a7e9690bc2b098ba1d", func := "loop.example/transitfares/laws.FnFareOfPeaks", spec := "fnFareOfPeaks", apart := false }
def FnFareOfPeaksSaid : Prop := fnFareOfPeaksRow.holds Try.pinned (OpenSpec.ofChange fnFareOfPeaksSpec)

/-- ITS FALSE NEIGHBOUR: 'it returns false'. Refute it at one input. -/
def fnFareOfPeaksWrong : ChangeSpec := { name := "fnFareOfPeaks", fn := fun _ => fun
  | [d] => { results := [.lit (.bool false)], args := [d] }
  | _ => none }
def FnFareOfPeaksWrongFalsely : Prop := fnFareOfPeaksRow.holds Try.pinned (OpenSpec.ofChange fnFareOfPeaksWrong)

/-- 'laws.FnFirstUnfair': WHATEVER THE INPUT: true; the input reads as it did. -/
def fnFirstUnfairSpec : ChangeSpec := { name := "fnFirstUnfair", fn := fun _ => fun
  | [d] => { results := [.lit (.bool true)], args := [d] }
  | _ => none }
def fnFirstUnfairRow : OpenClaim := { program := "ytgmphbkcblkmbaa", sum := "da862ba40d4ab9f8cf39045a0fef39a204295a2d360a10a7e9690bc2b098ba1d", func := "loop.example/transitfares/laws.FnFirstUnfair", spec := "fnFirstUnfair", apart := false }
def FnFirstUnfairSaid : Prop := fnFirstUnfairRow.holds Try.pinned (OpenSpec.ofChange fnFirstUnfairSpec)

/-- ITS FALSE NEIGHBOUR: 'it returns false'. Refute it at one input. -/
def fnFirstUnfairWrong : ChangeSpec := { name := "fnFirstUnfair", fn := fun _ => fun
  | [d] => { results := [.lit (.bool false)], args := [d] }
  | _ => none }
def FnFirstUnfairWrongFalsely : Prop := fnFirstUnfairRow.holds Try.pinned (OpenSpec.ofChange fnFirstUnfairWrong)

/-- 'laws.FnFirstUnfairFair': WHATEVER THE INPUT: true; the input reads as it did. -/
def fnFirstUnfairFairSpec : ChangeSpec := { name := "fnFirstUnfairFair", fn := fun _ => fun
  | [d] => { results := [.lit (.bool true)], args := [d] }
  | _ => none }
def fnFirstUnfairFairRow : OpenClaim := { program := "ytgmphbkcblkmbaa", sum := "da862ba40d4ab9f8cf39045a0fef39a204295a2d360a10a7e9690bc2b098ba1d", func := "loop.example/transitfares/laws.FnFirstUnfairFair", spec := "fnFirstUnfairFair", apart := false }
def FnFirstUnfairFairSaid : Prop := fnFirstUnfairFairRow.holds Try.pinned (OpenSpec.ofChange fnFirstUnfairFairSpec)

/-- ITS FALSE NEIGHBOUR: 'it returns false'. Refute it at one input. -/
def fnFirstUnfairFairWrong : ChangeSpec := { name := "fnFirstUnfairFair", fn := fun _ => fun
  | [d] => { results := [.lit (.bool false)], args := [d] }
  | _ => none }
def FnFirstUnfairFairWrongFalsely : Prop := fnFirstUnfairFairRow.holds Try.pinned (OpenSpec.ofChange fnFirstUnfairFairWrong)

/-- 'laws.FnFairPrices': WHATEVER THE INPUT: true; the input reads as it did. -/
def fnFairPricesSpec : ChangeSpec := { name := "fnFairPrices", fn := fun _ => fun
  | [d] => { results := [.lit (.bool true)], args := [d] }
  | _ => none }
def fnFairPricesRow : OpenClaim := { program := "ytgmphbkcblkmbaa", sum := "da862ba40d4ab9f8cf39045a0fef39a204295a2d360a10a7e9690bc2b098ba1d", func := "loop.example/transitfares/laws.FnFairPrices", spec := "fnFairPrices", apart := false }
def FnFairPricesSaid : Prop := fnFairPricesRow.holds Try.pinned (OpenSpec.ofChange fnFairPricesSpec)

/-- ITS FALSE NEIGHBOUR: 'it returns false'. Refute it at one input. -/
def fnFairPricesWrong : ChangeSpec := { name := "fnFairPrices", fn := fun _ => fun
  | [d] => { results := [.lit (.bool false)], args := [d] }
  | _ => none }
def FnFairPricesWrongFalsely : Prop := fnFairPricesRow.holds Try.pinned (OpenSpec.ofChange fnFairPricesWrong)

/-- 'laws.FnFareOfZone': WHATEVER THE INPUT: true; the input reads as it did. -/
def fnFareOfZoneSpec : ChangeSpec := { name := "fnFareOfZone", fn := fun _ => fun
  | [d] => { results := [.lit (.bool true)], args := [d] }
  | _ => none }
def fnFareOfZoneRow : OpenClaim := { program := "ytgmphbkcblkmbaa", sum := "da862ba40d4ab9f8cf39045a0fef39a204295a2d360a10a7e9690bc2b098ba1d", func := "loop.example/transitfares/laws.FnFareOfZone", spec := "fnFareOfZone", apart := false }
def FnFareOfZoneSaid : Prop := fnFareOfZoneRow.holds Try.pinned (OpenSpec.ofChange fnFareOfZoneSpec)

/-- ITS FALSE NEIGHBOUR: 'it returns false'. Refute it at one input. -/
def fnFareOfZoneWrong : ChangeSpec := { name := "fnFareOfZone", fn := fun _ => fun
  | [d] => { results := [.lit (.bool false)], args := [d] }
  | _ => none }
def FnFareOfZoneWrongFalsely : Prop := fnFareOfZoneRow.holds Try.pinned (OpenSpec.ofChange fnFareOfZoneWrong)

/-- 'laws.FnExactValidTariff': WHATEVER THE INPUT: true; the input reads as it did. -/
def fnExactValidTariffSpec : ChangeSpec := { name := "fnExactValidTariff", fn := fun _ => fun
  | [d] => { results := [.lit (.bool true)], args := [d] }
  | _ => none }
def fnExactValidTariffRow : OpenClaim := { program := "ytgmphbkcblkmbaa", sum := "da862ba40d4ab9f8cf39045a0fef39a204295a2d360a10a7e9690bc2b098ba1d", func := "loop.example/transitfares/laws.FnExactValidTariff", spec := "fnExactValidTariff", apart := false }
def FnExactValidTariffSaid : Prop := fnExactValidTariffRow.holds Try.pinned (OpenSpec.ofChange fnExactValidTariffSpec)

/-- ITS FALSE NEIGHBOUR: 'it returns false'. Refute it at one input. -/
def fnExactValidTariffWrong : ChangeSpec := { name := "fnExactValidTariff", fn := fun _ => fun
  | [d] => { results := [.lit (.bool false)], args := [d] }
  | _ => none }
def FnExactValidTariffWrongFalsely : Prop := fnExactValidTariffRow.holds Try.pinned (OpenSpec.ofChange fnExactValidTariffWrong)

/-- 'laws.FnExactBasePrice': WHATEVER THE INPUT: true; the input reads as it did. -/
def fnExactBasePriceSpec : ChangeSpec := { name := "fnExactBasePrice", fn := fun _ => fun
  | [d1, d2, d3] => { results := [.lit (.bool true)], args := [d1, d2, d3] }
  | _ => none }
def fnExactBasePriceRow : OpenClaim := { program := "ytgmphbkcblkmbaa", sum := "da862ba40d4ab9f8cf39045a0fef39a204295a2d360a10a7e9690bc2b098ba1d", func := "loop.example/transitfares/laws.FnExactBasePrice", spec := "fnExactBasePrice", apart := false }
def FnExactBasePriceSaid : Prop := fnExactBasePriceRow.holds Try.pinned (OpenSpec.ofChange fnExactBasePriceSpec)

/-- ITS FALSE NEIGHBOUR: 'it returns false'. Refute it at one input. -/
def fnExactBasePriceWrong : ChangeSpec := { name := "fnExactBasePrice", fn := fun _ => fun
  | [d1, d2, d3] => { results := [.lit (.bool false)], args := [d1, d2, d3] }
  | _ => none }
def FnExactBasePriceWrongFalsely : Prop := fnExactBasePriceRow.holds Try.pinned (OpenSpec.ofChange fnExactBasePriceWrong)

/-- 'laws.FnExactFareOf': WHATEVER THE INPUT: true; the input reads as it did. -/
def fnExactFareOfSpec : ChangeSpec := { name := "fnExactFareOf", fn := fun _ => fun
  | [d1, d2, d3, d4] => { results := [.lit (.bool true)], args := [d1, d2, d3, d4] }
  | _ => none }
def fnExactFareOfRow : OpenClaim := { program := "ytgmphbkcblkmbaa", sum := "da862ba40d4ab9f8cf39045a0fef39a204295a2d360a10a7e9690bc2b098ba1d", func := "loop.example/transitfares/laws.FnExactFareOf", spec := "fnExactFareOf", apart := false }
def FnExactFareOfSaid : Prop := fnExactFareOfRow.holds Try.pinned (OpenSpec.ofChange fnExactFareOfSpec)

/-- ITS FALSE NEIGHBOUR: 'it returns false'. Refute it at one input. -/
def fnExactFareOfWrong : ChangeSpec := { name := "fnExactFareOf", fn := fun _ => fun
  | [d1, d2, d3, d4] => { results := [.lit (.bool false)], args := [d1, d2, d3, d4] }
  | _ => none }
def FnExactFareOfWrongFalsely : Prop := fnExactFareOfRow.holds Try.pinned (OpenSpec.ofChange fnExactFareOfWrong)

/-- 'laws.FnExactFirstUnfair': WHATEVER THE INPUT: true; the input reads as it did. -/
def fnExactFirstUnfairSpec : ChangeSpec := { name := "fnExactFirstUnfair", fn := fun _ => fun
  | [d] => { results := [.lit (.bool true)], args := [d] }
  | _ => none }
def fnExactFirstUnfairRow : OpenClaim := { program := "ytgmphbkcblkmbaa", sum := "da862ba40d4ab9f8cf39045a0fef39a204295a2d360a10a7e9690bc2b098ba1d", func := "loop.example/transitfares/laws.FnExactFirstUnfair", spec := "fnExactFirstUnfair", apart := false }
def FnExactFirstUnfairSaid : Prop := fnExactFirstUnfairRow.holds Try.pinned (OpenSpec.ofChange fnExactFirstUnfairSpec)

/-- ITS FALSE NEIGHBOUR: 'it returns false'. Refute it at one input. -/
def fnExactFirstUnfairWrong : ChangeSpec := { name := "fnExactFirstUnfair", fn := fun _ => fun
  | [d] => { results := [.lit (.bool false)], args := [d] }
  | _ => none }
def FnExactFirstUnfairWrongFalsely : Prop := fnExactFirstUnfairRow.holds Try.pinned (OpenSpec.ofChange fnExactFirstUnfairWrong)

/-- 'laws.FnExactFairPrices': WHATEVER THE INPUT: true; the input reads as it did. -/
def fnExactFairPricesSpec : ChangeSpec := { name := "fnExactFairPrices", fn := fun _ => fun
  | [d] => { results := [.lit (.bool true)], args := [d] }
  | _ => none }
def fnExactFairPricesRow : OpenClaim := { program := "ytgmphbkcblkmbaa", sum := "da862ba40d4ab9f8cf39045a0fef39a204295a2d360a10a7e9690bc2b098ba1d", func := "loop.example/transitfares/laws.FnExactFairPrices", spec := "fnExactFairPrices", apart := false }
def FnExactFairPricesSaid : Prop := fnExactFairPricesRow.holds Try.pinned (OpenSpec.ofChange fnExactFairPricesSpec)

/-- ITS FALSE NEIGHBOUR: 'it returns false'. Refute it at one input. -/
def fnExactFairPricesWrong : ChangeSpec := { name := "fnExactFairPrices", fn := fun _ => fun
  | [d] => { results := [.lit (.bool false)], args := [d] }
  | _ => none }
def FnExactFairPricesWrongFalsely : Prop := fnExactFairPricesRow.holds Try.pinned (OpenSpec.ofChange fnExactFairPricesWrong)

/-- 'laws.FnPricesOf': WHATEVER THE INPUT: true; the input reads as it did. -/
def fnPricesOfSpec : ChangeSpec := { name := "fnPricesOf", fn := fun _ => fun
  | [d] => { results := [.lit (.bool true)], args := [d] }
  | _ => none }
def fnPricesOfRow : OpenClaim := { program := "ytgmphbkcblkmbaa", sum := "da862ba40d4ab9f8cf39045a0fef39a204295a2d360a10a7e9690bc2b098ba1d", func := "loop.example/transitfares/laws.FnPricesOf", spec := "fnPricesOf", apart := false }
def FnPricesOfSaid : Prop := fnPricesOfRow.holds Try.pinned (OpenSpec.ofChange fnPricesOfSpec)

/-- ITS FALSE NEIGHBOUR: 'it returns false'. Refute it at one input. -/
def fnPricesOfWrong : ChangeSpec := { name := "fnPricesOf", fn := fun _ => fun
  | [d] => { results := [.lit (.bool false)], args := [d] }
  | _ => none }
def FnPricesOfWrongFalsely : Prop := fnPricesOfRow.holds Try.pinned (OpenSpec.ofChange fnPricesOfWrong)

/-- 'laws.FnLinkedPrices': WHATEVER THE INPUT: true; the input reads as it did. -/
def fnLinkedPricesSpec : ChangeSpec := { name := "fnLinkedPrices", fn := fun _ => fun
  | [d] => { results := [.lit (.bool true)], args := [d] }
  | _ => none }
def fnLinkedPricesRow : OpenClaim := { program := "ytgmphbkcblkmbaa", sum := "da862ba40d4ab9f8cf39045a0fef39a204295a2d360a10a7e9690bc2b098ba1d", func := "loop.example/transitfares/laws.FnLinkedPrices", spec := "fnLinkedPrices", unfollowed := true, recurses := true, apart := false }
def FnLinkedPricesSaid : Prop := fnLinkedPricesRow.holds Try.pinned (OpenSpec.ofChange fnLinkedPricesSpec)

/-- ITS FALSE NEIGHBOUR: 'it returns false'. Refute it at one input. -/
def fnLinkedPricesWrong : ChangeSpec := { name := "fnLinkedPrices", fn := fun _ => fun
  | [d] => { results := [.lit (.bool false)], args := [d] }
  | _ => none }
def FnLinkedPricesWrongFalsely : Prop := fnLinkedPricesRow.holds Try.pinned (OpenSpec.ofChange fnLinkedPricesWrong)

/-- 'laws.FnLinkedPricesMost': WHATEVER THE INPUT: true; the input reads as it did. -/
def fnLinkedPricesMostSpec : ChangeSpec := { name := "fnLinkedPricesMost", fn := fun _ => fun
  | [d] => { results := [.lit (.bool true)], args := [d] }
  | _ => none }
def fnLinkedPricesMostRow : OpenClaim := { program := "ytgmphbkcblkmbaa", sum := "da862ba40d4ab9f8cf39045a0fef39a204295a2d360a10a7e9690bc2b098ba1d", func := "loop.example/transitfares/laws.FnLinkedPricesMost", spec := "fnLinkedPricesMost", unfollowed := true, recurses := true, apart := false }
def FnLinkedPricesMostSaid : Prop := fnLinkedPricesMostRow.holds Try.pinned (OpenSpec.ofChange fnLinkedPricesMostSpec)

/-- ITS FALSE NEIGHBOUR: 'it returns false'. Refute it at one input. -/
def fnLinkedPricesMostWrong : ChangeSpec := { name := "fnLinkedPricesMost", fn := fun _ => fun
  | [d] => { results := [.lit (.bool false)], args := [d] }
  | _ => none }
def FnLinkedPricesMostWrongFalsely : Prop := fnLinkedPricesMostRow.holds Try.pinned (OpenSpec.ofChange fnLinkedPricesMostWrong)

/-- 'laws.FnLinkedPricesWindow': WHATEVER THE INPUT: true; the input reads as it did. -/
def fnLinkedPricesWindowSpec : ChangeSpec := { name := "fnLinkedPricesWindow", fn := fun _ => fun
  | [d] => { results := [.lit (.bool true)], args := [d] }
  | _ => none }
def fnLinkedPricesWindowRow : OpenClaim := { program := "ytgmphbkcblkmbaa", sum := "da862ba40d4ab9f8cf39045a0fef39a204295a2d360a10a7e9690bc2b098ba1d", func := "loop.example/transitfares/laws.FnLinkedPricesWindow", spec := "fnLinkedPricesWindow", unfollowed := true, recurses := true, apart := false }
def FnLinkedPricesWindowSaid : Prop := fnLinkedPricesWindowRow.holds Try.pinned (OpenSpec.ofChange fnLinkedPricesWindowSpec)

/-- ITS FALSE NEIGHBOUR: 'it returns false'. Refute it at one input. -/
def fnLinkedPricesWindowWrong : ChangeSpec := { name := "fnLinkedPricesWindow", fn := fun _ => fun
  | [d] => { results := [.lit (.bool false)], args := [d] }
  | _ => none }
def FnLinkedPricesWindowWrongFalsely : Prop := fnLinkedPricesWindowRow.holds Try.pinned (OpenSpec.ofChange fnLinkedPricesWindowWrong)

/-- 'laws.FnPricesOfTop': WHATEVER THE INPUT: true; the input reads as it did. -/
def fnPricesOfTopSpec : ChangeSpec := { name := "fnPricesOfTop", fn := fun _ => fun
  | [d] => { results := [.lit (.bool true)], args := [d] }
  | _ => none }
def fnPricesOfTopRow : OpenClaim := { program := "ytgmphbkcblkmbaa", sum := "da862ba40d4ab9f8cf39045a0fef39a204295a2d360a10a7e9690bc2b098ba1d", func := "loop.example/transitfares/laws.FnPricesOfTop", spec := "fnPricesOfTop", apart := false }
def FnPricesOfTopSaid : Prop := fnPricesOfTopRow.holds Try.pinned (OpenSpec.ofChange fnPricesOfTopSpec)

/-- ITS FALSE NEIGHBOUR: 'it returns false'. Refute it at one input. -/
def fnPricesOfTopWrong : ChangeSpec := { name := "fnPricesOfTop", fn := fun _ => fun
  | [d] => { results := [.lit (.bool false)], args := [d] }
  | _ => none }
def FnPricesOfTopWrongFalsely : Prop := fnPricesOfTopRow.holds Try.pinned (OpenSpec.ofChange fnPricesOfTopWrong)

/-- 'laws.FnLinkedPricesPrefix': WHATEVER THE INPUT: true; the input reads as it did. -/
def fnLinkedPricesPrefixSpec : ChangeSpec := { name := "fnLinkedPricesPrefix", fn := fun _ => fun
  | [d] => { results := [.lit (.bool true)], args := [d] }
  | _ => none }
def fnLinkedPricesPrefixRow : OpenClaim := { program := "ytgmphbkcblkmbaa", sum := "da862ba40d4ab9f8cf39045a0fef39a204295a2d360a10a7e9690bc2b098ba1d", func := "loop.example/transitfares/laws.FnLinkedPricesPrefix", spec := "fnLinkedPricesPrefix", unfollowed := true, recurses := true, apart := false }
def FnLinkedPricesPrefixSaid : Prop := fnLinkedPricesPrefixRow.holds Try.pinned (OpenSpec.ofChange fnLinkedPricesPrefixSpec)

/-- ITS FALSE NEIGHBOUR: 'it returns false'. Refute it at one input. -/
def fnLinkedPricesPrefixWrong : ChangeSpec := { name := "fnLinkedPricesPrefix", fn := fun _ => fun
  | [d] => { results := [.lit (.bool false)], args := [d] }
  | _ => none }
def FnLinkedPricesPrefixWrongFalsely : Prop := fnLinkedPricesPrefixRow.holds Try.pinned (OpenSpec.ofChange fnLinkedPricesPrefixWrong)

/-- 'laws.FnExactPricesOf': WHATEVER THE INPUT: true; the input reads as it did. -/
def fnExactPricesOfSpec : ChangeSpec := { name := "fnExactPricesOf", fn := fun _ => fun
  | [d1, d2] => { results := [.lit (.bool true)], args := [d1, d2] }
  | _ => none }
def fnExactPricesOfRow : OpenClaim := { program := "ytgmphbkcblkmbaa", sum := "da862ba40d4ab9f8cf39045a0fef39a204295a2d360a10a7e9690bc2b098ba1d", func := "loop.example/transitfares/laws.FnExactPricesOf", spec := "fnExactPricesOf", apart := false }
def FnExactPricesOfSaid : Prop := fnExactPricesOfRow.holds Try.pinned (OpenSpec.ofChange fnExactPricesOfSpec)

/-- ITS FALSE NEIGHBOUR: 'it returns false'. Refute it at one input. -/
def fnExactPricesOfWrong : ChangeSpec := { name := "fnExactPricesOf", fn := fun _ => fun
  | [d1, d2] => { results := [.lit (.bool false)], args := [d1, d2] }
  | _ => none }
def FnExactPricesOfWrongFalsely : Prop := fnExactPricesOfRow.holds Try.pinned (OpenSpec.ofChange fnExactPricesOfWrong)

/-- 'laws.FnExactLinkedPrices': WHATEVER THE INPUT: true; the input reads as it did. -/
def fnExactLinkedPricesSpec : ChangeSpec := { name := "fnExactLinkedPrices", fn := fun _ => fun
  | [d1, d2, d3] => { results := [.lit (.bool true)], args := [d1, d2, d3] }
  | _ => none }
def fnExactLinkedPricesRow : OpenClaim := { program := "ytgmphbkcblkmbaa", sum := "da862ba40d4ab9f8cf39045a0fef39a204295a2d360a10a7e9690bc2b098ba1d", func := "loop.example/transitfares/laws.FnExactLinkedPrices", spec := "fnExactLinkedPrices", unfollowed := true, recurses := true, apart := false }
def FnExactLinkedPricesSaid : Prop := fnExactLinkedPricesRow.holds Try.pinned (OpenSpec.ofChange fnExactLinkedPricesSpec)

/-- ITS FALSE NEIGHBOUR: 'it returns false'. Refute it at one input. -/
def fnExactLinkedPricesWrong : ChangeSpec := { name := "fnExactLinkedPrices", fn := fun _ => fun
  | [d1, d2, d3] => { results := [.lit (.bool false)], args := [d1, d2, d3] }
  | _ => none }
def FnExactLinkedPricesWrongFalsely : Prop := fnExactLinkedPricesRow.holds Try.pinned (OpenSpec.ofChange fnExactLinkedPricesWrong)

/- THE SECOND FORM. 'bulk': how many values and letters a reading holds, each counted each time it is reached (what is shared counts as often as it is met; a slice's spare places count too). A statement '..UptoSaid' is the law's where the arguments, and the package variables that the reading takes, are together of bulk at most 1048576: NARROWER than '..Said'. Prove '..Said' where nothing that the law and all that it calls make is longer than what came in: it says more and counts as full. Else prove '..UptoSaid'. A law counts once. -/
mutual
def uptoBulk {H : Type} : DataW H → Nat
  | .lit (.string bytes) => bytes.length + 1
  | .lit _ => 1
  | .nil => 1
  | .ptr d => uptoBulk d + 1
  | .slice elems spare => uptoBulkAll elems + uptoBulkAll spare + 1
  | .agg parts => uptoBulkAll parts + 1
  | .iface _ d => uptoBulk d + 1
  | .map entries => uptoBulkEntries entries + 1
  | .held _ => 1
def uptoBulkAll {H : Type} : List (DataW H) → Nat
  | [] => 0
  | d :: r => uptoBulk d + uptoBulkAll r
def uptoBulkEntries {H : Type} : List (Lit × DataW H) → Nat
  | [] => 0
  | x :: r => uptoBulkEntry x + uptoBulkEntries r
def uptoBulkEntry {H : Type} : Lit × DataW H → Nat
  | (.string bytes, d) => bytes.length + uptoBulk d + 1
  | (_, d) => uptoBulk d + 1
 end
def uptoSmall : (H : Type) → List (DataW H) → Bool := fun _ ds => decide (uptoBulkAll ds ≤ 1048576)
def OpenSpec.upto (s : _root_.Go.ChangeSpec) : _root_.Go.OpenSpec := { _root_.Go.OpenSpec.ofChange s with cond := some uptoSmall }

/-- 'laws.FnValidTariff', WHERE WHAT IT READS IS OF BULK AT MOST 1048576: true; the input reads as it did. -/
def fnValidTariffUptoRow : OpenClaim := { program := "ytgmphbkcblkmbaa", sum := "da862ba40d4ab9f8cf39045a0fef39a204295a2d360a10a7e9690bc2b098ba1d", func := "loop.example/transitfares/laws.FnValidTariff", spec := "fnValidTariff", apart := false, narrowed := true }
def FnValidTariffUptoSaid : Prop := fnValidTariffUptoRow.holds Try.pinned (OpenSpec.upto fnValidTariffSpec)

/-- 'laws.FnBasePrice', WHERE WHAT IT READS IS OF BULK AT MOST 1048576: true; the input reads as it did. -/
def fnBasePriceUptoRow : OpenClaim := { program := "ytgmphbkcblkmbaa", sum := "da862ba40d4ab9f8cf39045a0fef39a204295a2d360a10a7e9690bc2b098ba1d", func := "loop.example/transitfares/laws.FnBasePrice", spec := "fnBasePrice", apart := false, narrowed := true }
def FnBasePriceUptoSaid : Prop := fnBasePriceUptoRow.holds Try.pinned (OpenSpec.upto fnBasePriceSpec)

/-- 'laws.FnFareOf', WHERE WHAT IT READS IS OF BULK AT MOST 1048576: true; the input reads as it did. -/
def fnFareOfUptoRow : OpenClaim := { program := "ytgmphbkcblkmbaa", sum := "da862ba40d4ab9f8cf39045a0fef39a204295a2d360a10a7e9690bc2b098ba1d", func := "loop.example/transitfares/laws.FnFareOf", spec := "fnFareOf", apart := false, narrowed := true }
def FnFareOfUptoSaid : Prop := fnFareOfUptoRow.holds Try.pinned (OpenSpec.upto fnFareOfSpec)

/-- 'laws.FnFareOfPeaks', WHERE WHAT IT READS IS OF BULK AT MOST 1048576: true; the input reads as it did. -/
def fnFareOfPeaksUptoRow : OpenClaim := { program := "ytgmphbkcblkmbaa", sum := "da862ba40d4ab9f8cf39045a0fef39a204295a2d360a10a7e9690bc2b098ba1d", func := "loop.example/transitfares/laws.FnFareOfPeaks", spec := "fnFareOfPeaks", apart := false, narrowed := true }
def FnFareOfPeaksUptoSaid : Prop := fnFareOfPeaksUptoRow.holds Try.pinned (OpenSpec.upto fnFareOfPeaksSpec)

/-- 'laws.FnFirstUnfair', WHERE WHAT IT READS IS OF BULK AT MOST 1048576: true; the input reads as it did. -/
def fnFirstUnfairUptoRow : OpenClaim := { program := "ytgmphbkcblkmbaa", sum := "da862ba40d4ab9f8cf39045a0fef39a204295a2d360a10a7e9690bc2b098ba1d", func := "loop.example/transitfares/laws.FnFirstUnfair", spec := "fnFirstUnfair", apart := false, narrowed := true }
def FnFirstUnfairUptoSaid : Prop := fnFirstUnfairUptoRow.holds Try.pinned (OpenSpec.upto fnFirstUnfairSpec)

/-- 'laws.FnFirstUnfairFair', WHERE WHAT IT READS IS OF BULK AT MOST 1048576: true; the input reads as it did. -/
def fnFirstUnfairFairUptoRow : OpenClaim := { program := "ytgmphbkcblkmbaa", sum := "da862ba40d4ab9f8cf39045a0fef39a204295a2d360a10a7e9690bc2b098ba1d", func := "loop.example/transitfares/laws.FnFirstUnfairFair", spec := "fnFirstUnfairFair", apart := false, narrowed := true }
def FnFirstUnfairFairUptoSaid : Prop := fnFirstUnfairFairUptoRow.holds Try.pinned (OpenSpec.upto fnFirstUnfairFairSpec)

/-- 'laws.FnFairPrices', WHERE WHAT IT READS IS OF BULK AT MOST 1048576: true; the input reads as it did. -/
def fnFairPricesUptoRow : OpenClaim := { program := "ytgmphbkcblkmbaa", sum := "da862ba40d4ab9f8cf39045a0fef39a204295a2d360a10a7e9690bc2b098ba1d", func := "loop.example/transitfares/laws.FnFairPrices", spec := "fnFairPrices", apart := false, narrowed := true }
def FnFairPricesUptoSaid : Prop := fnFairPricesUptoRow.holds Try.pinned (OpenSpec.upto fnFairPricesSpec)

/-- 'laws.FnFareOfZone', WHERE WHAT IT READS IS OF BULK AT MOST 1048576: true; the input reads as it did. -/
def fnFareOfZoneUptoRow : OpenClaim := { program := "ytgmphbkcblkmbaa", sum := "da862ba40d4ab9f8cf39045a0fef39a204295a2d360a10a7e9690bc2b098ba1d", func := "loop.example/transitfares/laws.FnFareOfZone", spec := "fnFareOfZone", apart := false, narrowed := true }
def FnFareOfZoneUptoSaid : Prop := fnFareOfZoneUptoRow.holds Try.pinned (OpenSpec.upto fnFareOfZoneSpec)

/-- 'laws.FnExactValidTariff', WHERE WHAT IT READS IS OF BULK AT MOST 1048576: true; the input reads as it did. -/
def fnExactValidTariffUptoRow : OpenClaim := { program := "ytgmphbkcblkmbaa", sum := "da862ba40d4ab9f8cf39045a0fef39a204295a2d360a10a7e9690bc2b098ba1d", func := "loop.example/transitfares/laws.FnExactValidTariff", spec := "fnExactValidTariff", apart := false, narrowed := true }
def FnExactValidTariffUptoSaid : Prop := fnExactValidTariffUptoRow.holds Try.pinned (OpenSpec.upto fnExactValidTariffSpec)

/-- 'laws.FnExactBasePrice', WHERE WHAT IT READS IS OF BULK AT MOST 1048576: true; the input reads as it did. -/
def fnExactBasePriceUptoRow : OpenClaim := { program := "ytgmphbkcblkmbaa", sum := "da862ba40d4ab9f8cf39045a0fef39a204295a2d360a10a7e9690bc2b098ba1d", func := "loop.example/transitfares/laws.FnExactBasePrice", spec := "fnExactBasePrice", apart := false, narrowed := true }
def FnExactBasePriceUptoSaid : Prop := fnExactBasePriceUptoRow.holds Try.pinned (OpenSpec.upto fnExactBasePriceSpec)

/-- 'laws.FnExactFareOf', WHERE WHAT IT READS IS OF BULK AT MOST 1048576: true; the input reads as it did. -/
def fnExactFareOfUptoRow : OpenClaim := { program := "ytgmphbkcblkmbaa", sum := "da862ba40d4ab9f8cf39045a0fef39a204295a2d360a10a7e9690bc2b098ba1d", func := "loop.example/transitfares/laws.FnExactFareOf", spec := "fnExactFareOf", apart := false, narrowed := true }
def FnExactFareOfUptoSaid : Prop := fnExactFareOfUptoRow.holds Try.pinned (OpenSpec.upto fnExactFareOfSpec)

/-- 'laws.FnExactFirstUnfair', WHERE WHAT IT READS IS OF BULK AT MOST 1048576: true; the input reads as it did. -/
def fnExactFirstUnfairUptoRow : OpenClaim := { program := "ytgmphbkcblkmbaa", sum := "da862ba40d4ab9f8cf39045a0fef39a204295a2d360a10a7e9690bc2b098ba1d", func := "loop.example/transitfares/laws.FnExactFirstUnfair", spec := "fnExactFirstUnfair", apart := false, narrowed := true }
def FnExactFirstUnfairUptoSaid : Prop := fnExactFirstUnfairUptoRow.holds Try.pinned (OpenSpec.upto fnExactFirstUnfairSpec)

/-- 'laws.FnExactFairPrices', WHERE WHAT IT READS IS OF BULK AT MOST 1048576: true; the input reads as it did. -/
def fnExactFairPricesUptoRow : OpenClaim := { program := "ytgmphbkcblkmbaa", sum := "da862ba40d4ab9f8cf39045a0fef39a204295a2d360a10a7e9690bc2b098ba1d", func := "loop.example/transitfares/laws.FnExactFairPrices", spec := "fnExactFairPrices", apart := false, narrowed := true }
def FnExactFairPricesUptoSaid : Prop := fnExactFairPricesUptoRow.holds Try.pinned (OpenSpec.upto fnExactFairPricesSpec)

/-- 'laws.FnPricesOf', WHERE WHAT IT READS IS OF BULK AT MOST 1048576: true; the input reads as it did. -/
def fnPricesOfUptoRow : OpenClaim := { program := "ytgmphbkcblkmbaa", sum := "da862ba40d4ab9f8cf39045a0fef39a204295a2d360a10a7e9690bc2b098ba1d", func := "loop.example/transitfares/laws.FnPricesOf", spec := "fnPricesOf", apart := false, narrowed := true }
def FnPricesOfUptoSaid : Prop := fnPricesOfUptoRow.holds Try.pinned (OpenSpec.upto fnPricesOfSpec)

/-- 'laws.FnLinkedPrices', WHERE WHAT IT READS IS OF BULK AT MOST 1048576: true; the input reads as it did. -/
def fnLinkedPricesUptoRow : OpenClaim := { program := "ytgmphbkcblkmbaa", sum := "da862ba40d4ab9f8cf39045a0fef39a204295a2d360a10a7e9690bc2b098ba1d", func := "loop.example/transitfares/laws.FnLinkedPrices", spec := "fnLinkedPrices", unfollowed := true, recurses := true, apart := false, narrowed := true }
def FnLinkedPricesUptoSaid : Prop := fnLinkedPricesUptoRow.holds Try.pinned (OpenSpec.upto fnLinkedPricesSpec)

/-- 'laws.FnLinkedPricesMost', WHERE WHAT IT READS IS OF BULK AT MOST 1048576: true; the input reads as it did. -/
def fnLinkedPricesMostUptoRow : OpenClaim := { program := "ytgmphbkcblkmbaa", sum := "da862ba40d4ab9f8cf39045a0fef39a204295a2d360a10a7e9690bc2b098ba1d", func := "loop.example/transitfares/laws.FnLinkedPricesMost", spec := "fnLinkedPricesMost", unfollowed := true, recurses := true, apart := false, narrowed := true }
def FnLinkedPricesMostUptoSaid : Prop := fnLinkedPricesMostUptoRow.holds Try.pinned (OpenSpec.upto fnLinkedPricesMostSpec)

/-- 'laws.FnLinkedPricesWindow', WHERE WHAT IT READS IS OF BULK AT MOST 1048576: true; the input reads as it did. -/
def fnLinkedPricesWindowUptoRow : OpenClaim := { program := "ytgmphbkcblkmbaa", sum := "da862ba40d4ab9f8cf39045a0fef39a204295a2d360a10a7e9690bc2b098ba1d", func := "loop.example/transitfares/laws.FnLinkedPricesWindow", spec := "fnLinkedPricesWindow", unfollowed := true, recurses := true, apart := false, narrowed := true }
def FnLinkedPricesWindowUptoSaid : Prop := fnLinkedPricesWindowUptoRow.holds Try.pinned (OpenSpec.upto fnLinkedPricesWindowSpec)

/-- 'laws.FnPricesOfTop', WHERE WHAT IT READS IS OF BULK AT MOST 1048576: true; the input reads as it did. -/
def fnPricesOfTopUptoRow : OpenClaim := { program := "ytgmphbkcblkmbaa", sum := "da862ba40d4ab9f8cf39045a0fef39a204295a2d360a10a7e9690bc2b098ba1d", func := "loop.example/transitfares/laws.FnPricesOfTop", spec := "fnPricesOfTop", apart := false, narrowed := true }
def FnPricesOfTopUptoSaid : Prop := fnPricesOfTopUptoRow.holds Try.pinned (OpenSpec.upto fnPricesOfTopSpec)

/-- 'laws.FnLinkedPricesPrefix', WHERE WHAT IT READS IS OF BULK AT MOST 1048576: true; the input reads as it did. -/
def fnLinkedPricesPrefixUptoRow : OpenClaim := { program := "ytgmphbkcblkmbaa", sum := "da862ba40d4ab9f8cf39045a0fef39a204295a2d360a10a7e9690bc2b098ba1d", func := "loop.example/transitfares/laws.FnLinkedPricesPrefix", spec := "fnLinkedPricesPrefix", unfollowed := true, recurses := true, apart := false, narrowed := true }
def FnLinkedPricesPrefixUptoSaid : Prop := fnLinkedPricesPrefixUptoRow.holds Try.pinned (OpenSpec.upto fnLinkedPricesPrefixSpec)

/-- 'laws.FnExactPricesOf', WHERE WHAT IT READS IS OF BULK AT MOST 1048576: true; the input reads as it did. -/
def fnExactPricesOfUptoRow : OpenClaim := { program := "ytgmphbkcblkmbaa", sum := "da862ba40d4ab9f8cf39045a0fef39a204295a2d360a10a7e9690bc2b098ba1d", func := "loop.example/transitfares/laws.FnExactPricesOf", spec := "fnExactPricesOf", apart := false, narrowed := true }
def FnExactPricesOfUptoSaid : Prop := fnExactPricesOfUptoRow.holds Try.pinned (OpenSpec.upto fnExactPricesOfSpec)

/-- 'laws.FnExactLinkedPrices', WHERE WHAT IT READS IS OF BULK AT MOST 1048576: true; the input reads as it did. -/
def fnExactLinkedPricesUptoRow : OpenClaim := { program := "ytgmphbkcblkmbaa", sum := "da862ba40d4ab9f8cf39045a0fef39a204295a2d360a10a7e9690bc2b098ba1d", func := "loop.example/transitfares/laws.FnExactLinkedPrices", spec := "fnExactLinkedPrices", unfollowed := true, recurses := true, apart := false, narrowed := true }
def FnExactLinkedPricesUptoSaid : Prop := fnExactLinkedPricesUptoRow.holds Try.pinned (OpenSpec.upto fnExactLinkedPricesSpec)

end Rows
end Go.Proofs.Ytgmphbkcblkmbaa
