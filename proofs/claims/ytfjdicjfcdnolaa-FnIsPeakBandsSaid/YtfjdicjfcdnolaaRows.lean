/-
  No cell of these rows narrows 'for every input' (looked for: loops, veiled, ifaces, maps, wideKeys, modest, calm, conditions, laid).
  DERIVED. THE GIVEN ROWS OF THIS SEAT. 16 by the template 'for every input the law returns true; each argument reads behind the call as it read before'; 0 by the template 'total and deterministic' (their statements: YtfjdicjfcdnolaaTotals.lean).
  GIVEN WITH THE SEED: the statements are not yours to turn. If you find one false, say at which input.
  Laid BY PROGRAM, IN A SANDBOX (cutbox-rows.mjs): the forced cells as the released guide's own fill.sh prints them over the translation fe9814d708f2d3d7… (all of the seat's roots in one cut). By AI agents, Wed Nov 11 2026. No macro, syntax, notation, axiom, sorry.
-/
import Derived.Test.YtfjdicjfcdnolaaChecked
import GoSem.Claim
import GoSem.ClaimJoined
import GoSem.ClaimMapViews
import Derived.JoinedTies
import Derived.KernelRfl
namespace Go.Proofs.Ytfjdicjfcdnolaa
/- THE CELL 'sum', in the pinned program and in every row, IS THE sha256 OF THE DUMP (.gsa) THAT YtfjdicjfcdnolaaProg.lean LOADS. Nothing in Lean hashes anything: it is a label: what it is worth is what the hold of that sum in a sandbox is worth. -/
noncomputable def Try.pinned : Pinned := { name := "ytfjdicjfcdnolaa", sum := "fe9814d708f2d3d7070b5f79e9423ca964f6e35b8b1a997179dca3d9d28e4f68", checked := Try.checked }
namespace Rows
def none {H : Type} : Left H := { results := [], args := [] }

/-- 'laws.FnIsPeak': WHATEVER THE INPUT: true; the input reads as it did. -/
def fnIsPeakSpec : ChangeSpec := { name := "fnIsPeak", fn := fun _ => fun
  | [d] => { results := [.lit (.bool true)], args := [d] }
  | _ => none }
def fnIsPeakRow : OpenClaim := { program := "ytfjdicjfcdnolaa", sum := "fe9814d708f2d3d7070b5f79e9423ca964f6e35b8b1a997179dca3d9d28e4f68", func := "loop.example/transitfares/laws.FnIsPeak", spec := "fnIsPeak", apart := false }
def FnIsPeakSaid : Prop := fnIsPeakRow.holds Try.pinned (OpenSpec.ofChange fnIsPeakSpec)

/-- ITS FALSE NEIGHBOUR: 'it returns false'. Refute it at one input. -/
def fnIsPeakWrong : ChangeSpec := { name := "fnIsPeak", fn := fun _ => fun
  | [d] => { results := [.lit (.bool false)], args := [d] }
  | _ => none }
def FnIsPeakWrongFalsely : Prop := fnIsPeakRow.holds Try.pinned (OpenSpec.ofChange fnIsPeakWrong)

/-- 'laws.FnIsPeakBands': WHATEVER THE INPUT: true; the input reads as it did. -/
def fnIsPeakBandsSpec : ChangeSpec := { name := "fnIsPeakBands", fn := fun _ => fun
  | [d] => { results := [.lit (.bool true)], args := [d] }
  | _ => none }
def fnIsPeakBandsRow : OpenClaim := { program := "ytfjdicjfcdnolaa", sum := "fe9814d708f2d3d7070b5f79e9423ca964f6e35b8b1a997179dca3d9d28e4f68", func := "loop.example/transitfares/laws.FnIsPeakBands", spec := "fnIsPeakBands", apart := false }
def FnIsPeakBandsSaid : Prop := fnIsPeakBandsRow.holds Try.pinned (OpenSpec.ofChange fnIsPeakBandsSpec)

/-- ITS FALSE NEIGHBOUR: 'it returns false'. Refute it at one input. -/
def fnIsPeakBandsWrong : ChangeSpec := { name := "fnIsPeakBands", fn := fun _ => fun
  | [d] => { results := [.lit (.bool false)], args := [d] }
  | _ => none }
def FnIsPeakBandsWrongFalsely : Prop := fnIsPeakBandsRow.holds Try.pinned (OpenSpec.ofChange fnIsPeakBandsWrong)

/-- 'laws.FnValidTariff': WHATEVER THE INPUT: true; the input reads as it did. -/
def fnValidTariffSpec : ChangeSpec := { name := "fnValidTariff", fn := fun _ => fun
  | [d] => { results := [.lit (.bool true)], args := [d] }
  | _ => none }
def fnValidTariffRow : OpenClaim := { program := "ytfjdicjfcdnolaa", sum := "fe9814d708f2d3d7070b5f79e9423ca964f6e35b8b1a997179dca3d9d28e4f68", func := "loop.example/transitfares/laws.FnValidTariff", spec := "fnValidTariff", apart := false }
def FnValidTariffSaid : Prop := fnValidTariffRow.holds Try.pinned (OpenSpec.ofChange fnValidTariffSpec)

/-- ITS FALSE NEIGHBOUR: 'it returns false'. Refute it at one input. -/
def fnValidTariffWrong : ChangeSpec := { name := "fnValidTariff", fn := fun _ => fun
  | [d] => { results := [.lit (.bool false)], args := [d] }
  | _ => none }
def FnValidTariffWrongFalsely : Prop := fnValidTariffRow.holds Try.pinned (OpenSpec.ofChange fnValidTariffWrong)

/-- 'laws.FnBasePrice': WHATEVER THE INPUT: true; the input reads as it did. -/
def fnBasePriceSpec : ChangeSpec := { name := "fnBasePrice", fn := fun _ => fun
  | [d] => { results := [.lit (.bool true)], args := [d] }
  | _ => none }
def fnBasePriceRow : OpenClaim := { program := "ytfjdicjfcdnolaa", sum := "fe9814d708f2d3d7070b5f79e9423ca964f6e35b8b1a997179dca3d9d28e4f68", func := "loop.example/transitfares/laws.FnBasePrice", spec := "fnBasePrice", apart := false }
def FnBasePriceSaid : Prop := fnBasePriceRow.holds Try.pinned (OpenSpec.ofChange fnBasePriceSpec)

/-- ITS FALSE NEIGHBOUR: 'it returns false'. Refute it at one input. -/
def fnBasePriceWrong : ChangeSpec := { name := "fnBasePrice", fn := fun _ => fun
  | [d] => { results := [.lit (.bool false)], args := [d] }
  | _ => none }
def FnBasePriceWrongFalsely : Prop := fnBasePriceRow.holds Try.pinned (OpenSpec.ofChange fnBasePriceWrong)

/-- 'laws.FnFareOf': WHATEVER THE INPUT: true; the input reads as it did. -/
def fnFareOfSpec : ChangeSpec := { name := "fnFareOf", fn := fun _ => fun
  | [d] => { results := [.lit (.bool true)], args := [d] }
  | _ => none }
def fnFareOfRow : OpenClaim := { program := "ytfjdicjfcdnolaa", sum := "fe9814d708f2d3d7070b5f79e9423ca964f6e35b8b1a997179dca3d9d28e4f68", func := "loop.example/transitfares/laws.FnFareOf", spec := "fnFareOf", apart := false }
def FnFareOfSaid : Prop := fnFareOfRow.holds Try.pinned (OpenSpec.ofChange fnFareOfSpec)

/-- ITS FALSE NEIGHBOUR: 'it returns false'. Refute it at one input. -/
def fnFareOfWrong : ChangeSpec := { name := "fnFareOf", fn := fun _ => fun
  | [d] => { results := [.lit (.bool false)], args := [d] }
  | _ => none }
def FnFareOfWrongFalsely : Prop := fnFareOfRow.holds Try.pinned (OpenSpec.ofChange fnFareOfWrong)

/-- 'laws.FnFareOfPeaks': WHATEVER THE INPUT: true; the input reads as it did. -/
def fnFareOfPeaksSpec : ChangeSpec := { name := "fnFareOfPeaks", fn := fun _ => fun
  | [d] => { results := [.lit (.bool true)], args := [d] }
  | _ => none }
def fnFareOfPeaksRow : OpenClaim := { program := "ytfjdicjfcdnolaa", sum := "fe9814d708f2d3d7070b5f79e9423ca964f6e35b8b1a997179dca3d9d28e4f68", func := "loop.example/transitfares/laws.FnFareOfPeaks", spec := "fnFareOfPeaks", apart := false }
def FnFareOfPeaksSaid : Prop := fnFareOfPeaksRow.holds Try.pinned (OpenSpec.ofChange fnFareOfPeaksSpec)

/-- ITS FALSE NEIGHBOUR: 'it returns false'. Refute it at one input. -/
def fnFareOfPeaksWrong : ChangeSpec := { name := "fnFareOfPeaks", fn := fun _ => fun
  | [d] => { results := [.lit (.bool false)], args := [d] }
  | _ => none }
def FnFareOfPeaksWrongFalsely : Prop := fnFareOfPeaksRow.holds Try.pinned (OpenSpec.ofChange fnFareOfPeaksWrong)

/-- 'laws.FnFirstUnfair': WHATEVER THE INPUT: true; the input reads as it did. -/
def fnFirstUnfairSpec : ChangeSpec := { name := "fnFirstUnfair", fn := fun _ => fun
  | [d] => { results := [.lit (.bool true)], args := [d] }
  | _ => none }
def fnFirstUnfairRow : OpenClaim := { program := "ytfjdicjfcdnolaa", sum := "fe9814d708f2d3d7070b5f79e9423ca964f6e35b8b1a997179dca3d9d28e4f68", func := "loop.example/transitfares/laws.FnFirstUnfair", spec := "fnFirstUnfair", apart := false }
def FnFirstUnfairSaid : Prop := fnFirstUnfairRow.holds Try.pinned (OpenSpec.ofChange fnFirstUnfairSpec)

/-- ITS FALSE NEIGHBOUR: 'it returns false'. Refute it at one input. -/
def fnFirstUnfairWrong : ChangeSpec := { name := "fnFirstUnfair", fn := fun _ => fun
  | [d] => { results := [.lit (.bool false)], args := [d] }
  | _ => none }
def FnFirstUnfairWrongFalsely : Prop := fnFirstUnfairRow.holds Try.pinned (OpenSpec.ofChange fnFirstUnfairWrong)

/-- 'laws.FnFirstUnfairFair': WHATEVER THE INPUT: true; the input reads as it did. -/
def fnFirstUnfairFairSpec : ChangeSpec := { name := "fnFirstUnfairFair", fn := fun _ => fun
  | [d] => { results := [.lit (.bool true)], args := [d] }
  | _ => none }
def fnFirstUnfairFairRow : OpenClaim := { program := "ytfjdicjfcdnolaa", sum := "fe9814d708f2d3d7070b5f79e9423ca964f6e35b8b1a997179dca3d9d28e4f68", func := "loop.example/transitfares/laws.FnFirstUnfairFair", spec := "fnFirstUnfairFair", apart := false }
def FnFirstUnfairFairSaid : Prop := fnFirstUnfairFairRow.holds Try.pinned (OpenSpec.ofChange fnFirstUnfairFairSpec)

/-- ITS FALSE NEIGHBOUR: 'it returns false'. Refute it at one input. -/
def fnFirstUnfairFairWrong : ChangeSpec := { name := "fnFirstUnfairFair", fn := fun _ => fun
  | [d] => { results := [.lit (.bool false)], args := [d] }
  | _ => none }
def FnFirstUnfairFairWrongFalsely : Prop := fnFirstUnfairFairRow.holds Try.pinned (OpenSpec.ofChange fnFirstUnfairFairWrong)

/-- 'laws.FnFairPrices': WHATEVER THE INPUT: true; the input reads as it did. -/
def fnFairPricesSpec : ChangeSpec := { name := "fnFairPrices", fn := fun _ => fun
  | [d] => { results := [.lit (.bool true)], args := [d] }
  | _ => none }
def fnFairPricesRow : OpenClaim := { program := "ytfjdicjfcdnolaa", sum := "fe9814d708f2d3d7070b5f79e9423ca964f6e35b8b1a997179dca3d9d28e4f68", func := "loop.example/transitfares/laws.FnFairPrices", spec := "fnFairPrices", apart := false }
def FnFairPricesSaid : Prop := fnFairPricesRow.holds Try.pinned (OpenSpec.ofChange fnFairPricesSpec)

/-- ITS FALSE NEIGHBOUR: 'it returns false'. Refute it at one input. -/
def fnFairPricesWrong : ChangeSpec := { name := "fnFairPrices", fn := fun _ => fun
  | [d] => { results := [.lit (.bool false)], args := [d] }
  | _ => none }
def FnFairPricesWrongFalsely : Prop := fnFairPricesRow.holds Try.pinned (OpenSpec.ofChange fnFairPricesWrong)

/-- 'laws.FnFareOfZone': WHATEVER THE INPUT: true; the input reads as it did. -/
def fnFareOfZoneSpec : ChangeSpec := { name := "fnFareOfZone", fn := fun _ => fun
  | [d] => { results := [.lit (.bool true)], args := [d] }
  | _ => none }
def fnFareOfZoneRow : OpenClaim := { program := "ytfjdicjfcdnolaa", sum := "fe9814d708f2d3d7070b5f79e9423ca964f6e35b8b1a997179dca3d9d28e4f68", func := "loop.example/transitfares/laws.FnFareOfZone", spec := "fnFareOfZone", apart := false }
def FnFareOfZoneSaid : Prop := fnFareOfZoneRow.holds Try.pinned (OpenSpec.ofChange fnFareOfZoneSpec)

/-- ITS FALSE NEIGHBOUR: 'it returns false'. Refute it at one input. -/
def fnFareOfZoneWrong : ChangeSpec := { name := "fnFareOfZone", fn := fun _ => fun
  | [d] => { results := [.lit (.bool false)], args := [d] }
  | _ => none }
def FnFareOfZoneWrongFalsely : Prop := fnFareOfZoneRow.holds Try.pinned (OpenSpec.ofChange fnFareOfZoneWrong)

/-- 'laws.FnExactIsPeak': WHATEVER THE INPUT: true; the input reads as it did. -/
def fnExactIsPeakSpec : ChangeSpec := { name := "fnExactIsPeak", fn := fun _ => fun
  | [d1, d2] => { results := [.lit (.bool true)], args := [d1, d2] }
  | _ => none }
def fnExactIsPeakRow : OpenClaim := { program := "ytfjdicjfcdnolaa", sum := "fe9814d708f2d3d7070b5f79e9423ca964f6e35b8b1a997179dca3d9d28e4f68", func := "loop.example/transitfares/laws.FnExactIsPeak", spec := "fnExactIsPeak", apart := false }
def FnExactIsPeakSaid : Prop := fnExactIsPeakRow.holds Try.pinned (OpenSpec.ofChange fnExactIsPeakSpec)

/-- ITS FALSE NEIGHBOUR: 'it returns false'. Refute it at one input. -/
def fnExactIsPeakWrong : ChangeSpec := { name := "fnExactIsPeak", fn := fun _ => fun
  | [d1, d2] => { results := [.lit (.bool false)], args := [d1, d2] }
  | _ => none }
def FnExactIsPeakWrongFalsely : Prop := fnExactIsPeakRow.holds Try.pinned (OpenSpec.ofChange fnExactIsPeakWrong)

/-- 'laws.FnExactValidTariff': WHATEVER THE INPUT: true; the input reads as it did. -/
def fnExactValidTariffSpec : ChangeSpec := { name := "fnExactValidTariff", fn := fun _ => fun
  | [d] => { results := [.lit (.bool true)], args := [d] }
  | _ => none }
def fnExactValidTariffRow : OpenClaim := { program := "ytfjdicjfcdnolaa", sum := "fe9814d708f2d3d7070b5f79e9423ca964f6e35b8b1a997179dca3d9d28e4f68", func := "loop.example/transitfares/laws.FnExactValidTariff", spec := "fnExactValidTariff", apart := false }
def FnExactValidTariffSaid : Prop := fnExactValidTariffRow.holds Try.pinned (OpenSpec.ofChange fnExactValidTariffSpec)

/-- ITS FALSE NEIGHBOUR: 'it returns false'. Refute it at one input. -/
def fnExactValidTariffWrong : ChangeSpec := { name := "fnExactValidTariff", fn := fun _ => fun
  | [d] => { results := [.lit (.bool false)], args := [d] }
  | _ => none }
def FnExactValidTariffWrongFalsely : Prop := fnExactValidTariffRow.holds Try.pinned (OpenSpec.ofChange fnExactValidTariffWrong)

/-- 'laws.FnExactBasePrice': WHATEVER THE INPUT: true; the input reads as it did. -/
def fnExactBasePriceSpec : ChangeSpec := { name := "fnExactBasePrice", fn := fun _ => fun
  | [d1, d2, d3] => { results := [.lit (.bool true)], args := [d1, d2, d3] }
  | _ => none }
def fnExactBasePriceRow : OpenClaim := { program := "ytfjdicjfcdnolaa", sum := "fe9814d708f2d3d7070b5f79e9423ca964f6e35b8b1a997179dca3d9d28e4f68", func := "loop.example/transitfares/laws.FnExactBasePrice", spec := "fnExactBasePrice", apart := false }
def FnExactBasePriceSaid : Prop := fnExactBasePriceRow.holds Try.pinned (OpenSpec.ofChange fnExactBasePriceSpec)

/-- ITS FALSE NEIGHBOUR: 'it returns false'. Refute it at one input. -/
def fnExactBasePriceWrong : ChangeSpec := { name := "fnExactBasePrice", fn := fun _ => fun
  | [d1, d2, d3] => { results := [.lit (.bool false)], args := [d1, d2, d3] }
  | _ => none }
def FnExactBasePriceWrongFalsely : Prop := fnExactBasePriceRow.holds Try.pinned (OpenSpec.ofChange fnExactBasePriceWrong)

/-- 'laws.FnExactFareOf': WHATEVER THE INPUT: true; the input reads as it did. -/
def fnExactFareOfSpec : ChangeSpec := { name := "fnExactFareOf", fn := fun _ => fun
  | [d1, d2, d3, d4] => { results := [.lit (.bool true)], args := [d1, d2, d3, d4] }
  | _ => none }
def fnExactFareOfRow : OpenClaim := { program := "ytfjdicjfcdnolaa", sum := "fe9814d708f2d3d7070b5f79e9423ca964f6e35b8b1a997179dca3d9d28e4f68", func := "loop.example/transitfares/laws.FnExactFareOf", spec := "fnExactFareOf", apart := false }
def FnExactFareOfSaid : Prop := fnExactFareOfRow.holds Try.pinned (OpenSpec.ofChange fnExactFareOfSpec)

/-- ITS FALSE NEIGHBOUR: 'it returns false'. Refute it at one input. -/
def fnExactFareOfWrong : ChangeSpec := { name := "fnExactFareOf", fn := fun _ => fun
  | [d1, d2, d3, d4] => { results := [.lit (.bool false)], args := [d1, d2, d3, d4] }
  | _ => none }
def FnExactFareOfWrongFalsely : Prop := fnExactFareOfRow.holds Try.pinned (OpenSpec.ofChange fnExactFareOfWrong)

/-- 'laws.FnExactFirstUnfair': WHATEVER THE INPUT: true; the input reads as it did. -/
def fnExactFirstUnfairSpec : ChangeSpec := { name := "fnExactFirstUnfair", fn := fun _ => fun
  | [d] => { results := [.lit (.bool true)], args := [d] }
  | _ => none }
def fnExactFirstUnfairRow : OpenClaim := { program := "ytfjdicjfcdnolaa", sum := "fe9814d708f2d3d7070b5f79e9423ca964f6e35b8b1a997179dca3d9d28e4f68", func := "loop.example/transitfares/laws.FnExactFirstUnfair", spec := "fnExactFirstUnfair", apart := false }
def FnExactFirstUnfairSaid : Prop := fnExactFirstUnfairRow.holds Try.pinned (OpenSpec.ofChange fnExactFirstUnfairSpec)

/-- ITS FALSE NEIGHBOUR: 'it returns false'. Refute it at one input. -/
def fnExactFirstUnfairWrong : ChangeSpec := { name := "fnExactFirstUnfair", fn := fun _ => fun
  | [d] => { results := [.lit (.bool false)], args := [d] }
  | _ => none }
def FnExactFirstUnfairWrongFalsely : Prop := fnExactFirstUnfairRow.holds Try.pinned (OpenSpec.ofChange fnExactFirstUnfairWrong)

/-- 'laws.FnExactFairPrices': WHATEVER THE INPUT: true; the input reads as it did. -/
def fnExactFairPricesSpec : ChangeSpec := { name := "fnExactFairPrices", fn := fun _ => fun
  | [d] => { results := [.lit (.bool true)], args := [d] }
  | _ => none }
def fnExactFairPricesRow : OpenClaim := { program := "ytfjdicjfcdnolaa", sum := "fe9814d708f2d3d7070b5f79e9423ca964f6e35b8b1a997179dca3d9d28e4f68", func := "loop.example/transitfares/laws.FnExactFairPrices", spec := "fnExactFairPrices", apart := false }
def FnExactFairPricesSaid : Prop := fnExactFairPricesRow.holds Try.pinned (OpenSpec.ofChange fnExactFairPricesSpec)

/-- ITS FALSE NEIGHBOUR: 'it returns false'. Refute it at one input. -/
def fnExactFairPricesWrong : ChangeSpec := { name := "fnExactFairPrices", fn := fun _ => fun
  | [d] => { results := [.lit (.bool false)], args := [d] }
  | _ => none }
def FnExactFairPricesWrongFalsely : Prop := fnExactFairPricesRow.holds Try.pinned (OpenSpec.ofChange fnExactFairPricesWrong)

/- THE SECOND FORM. 'bulk': how many values and letters a reading holds, each counted each time it is reached (what is shared counts as often as it is met; a slice's spare places count too). A statement '..UptoSaid' is the law's where the arguments, and the package variables that the reading takes, are together of bulk at most 1048576: NARROWER than '..Said'. Prove '..Said' where nothing that the law and all that it calls make is longer than what came in: it says more and counts as full. Else prove '..UptoSaid'. A law counts once. -/
mutual
def uptoBulk {H : Type} : DataW H → Nat
  | .lit (.string bytes) => bytes.length + 1
  | .lit _ => 1
  | .nil => 1
  | .ptr d => uptoBulk d + 1
  | .slice elems spare => uptoBulkAll elems + uptoBulkAll spare + 1
  | .agg parts => uptoBulkAll parts + 1
  | .iface _ d => uptoBulk d + 1
  | .map entries => uptoBulkEntries entries + 1
  | .held _ => 1
def uptoBulkAll {H : Type} : List (DataW H) → Nat
  | [] => 0
  | d :: r => uptoBulk d + uptoBulkAll r
def uptoBulkEntries {H : Type} : List (Lit × DataW H) → Nat
  | [] => 0
  | x :: r => uptoBulkEntry x + uptoBulkEntries r
def uptoBulkEntry {H : Type} : Lit × DataW H → Nat
  | (.string bytes, d) => bytes.length + uptoBulk d + 1
  | (_, d) => uptoBulk d + 1
 end
def uptoSmall : (H : Type) → List (DataW H) → Bool := fun _ ds => decide (uptoBulkAll ds ≤ 1048576)
def OpenSpec.upto (s : _root_.Go.ChangeSpec) : _root_.Go.OpenSpec := { _root_.Go.OpenSpec.ofChange s with cond := some uptoSmall }

/-- 'laws.FnIsPeak', WHERE WHAT IT READS IS OF BULK AT MOST 1048576: true; the input reads as it did. -/
def fnIsPeakUptoRow : OpenClaim := { program := "ytfjdicjfcdnolaa", sum := "fe9814d708f2d3d7070b5f79e9423ca964f6e35b8b1a997179dca3d9d28e4f68", func := "loop.example/transitfares/laws.FnIsPeak", spec := "fnIsPeak", apart := false, narrowed := true }
def FnIsPeakUptoSaid : Prop := fnIsPeakUptoRow.holds Try.pinned (OpenSpec.upto fnIsPeakSpec)

/-- 'laws.FnIsPeakBands', WHERE WHAT IT READS IS OF BULK AT MOST 1048576: true; the input reads as it did. -/
def fnIsPeakBandsUptoRow : OpenClaim := { program := "ytfjdicjfcdnolaa", sum := "fe9814d708f2d3d7070b5f79e9423ca964f6e35b8b1a997179dca3d9d28e4f68", func := "loop.example/transitfares/laws.FnIsPeakBands", spec := "fnIsPeakBands", apart := false, narrowed := true }
def FnIsPeakBandsUptoSaid : Prop := fnIsPeakBandsUptoRow.holds Try.pinned (OpenSpec.upto fnIsPeakBandsSpec)

/-- 'laws.FnValidTariff', WHERE WHAT IT READS IS OF BULK AT MOST 1048576: true; the input reads as it did. -/
def fnValidTariffUptoRow : OpenClaim := { program := "ytfjdicjfcdnolaa", sum := "fe9814d708f2d3d7070b5f79e9423ca964f6e35b8b1a997179dca3d9d28e4f68", func := "loop.example/transitfares/laws.FnValidTariff", spec := "fnValidTariff", apart := false, narrowed := true }
def FnValidTariffUptoSaid : Prop := fnValidTariffUptoRow.holds Try.pinned (OpenSpec.upto fnValidTariffSpec)

/-- 'laws.FnBasePrice', WHERE WHAT IT READS IS OF BULK AT MOST 1048576: true; the input reads as it did. -/
def fnBasePriceUptoRow : OpenClaim := { program := "ytfjdicjfcdnolaa", sum := "fe9814d708f2d3d7070b5f79e9423ca964f6e35b8b1a997179dca3d9d28e4f68", func := "loop.example/transitfares/laws.FnBasePrice", spec := "fnBasePrice", apart := false, narrowed := true }
def FnBasePriceUptoSaid : Prop := fnBasePriceUptoRow.holds Try.pinned (OpenSpec.upto fnBasePriceSpec)

/-- 'laws.FnFareOf', WHERE WHAT IT READS IS OF BULK AT MOST 1048576: true; the input reads as it did. -/
def fnFareOfUptoRow : OpenClaim := { program := "ytfjdicjfcdnolaa", sum := "fe9814d708f2d3d7070b5f79e9423ca964f6e35b8b1a997179dca3d9d28e4f68", func := "loop.example/transitfares/laws.FnFareOf", spec := "fnFareOf", apart := false, narrowed := true }
def FnFareOfUptoSaid : Prop := fnFareOfUptoRow.holds Try.pinned (OpenSpec.upto fnFareOfSpec)

/-- 'laws.FnFareOfPeaks', WHERE WHAT IT READS IS OF BULK AT MOST 1048576: true; the input reads as it did. -/
def fnFareOfPeaksUptoRow : OpenClaim := { program := "ytfjdicjfcdnolaa", sum := "fe9814d708f2d3d7070b5f79e9423ca964f6e35b8b1a997179dca3d9d28e4f68", func := "loop.example/transitfares/laws.FnFareOfPeaks", spec := "fnFareOfPeaks", apart := false, narrowed := true }
def FnFareOfPeaksUptoSaid : Prop := fnFareOfPeaksUptoRow.holds Try.pinned (OpenSpec.upto fnFareOfPeaksSpec)

/-- 'laws.FnFirstUnfair', WHERE WHAT IT READS IS OF BULK AT MOST 1048576: true; the input reads as it did. -/
def fnFirstUnfairUptoRow : OpenClaim := { program := "ytfjdicjfcdnolaa", sum := "fe9814d708f2d3d7070b5f79e9423ca964f6e35b8b1a997179dca3d9d28e4f68", func := "loop.example/transitfares/laws.FnFirstUnfair", spec := "fnFirstUnfair", apart := false, narrowed := true }
def FnFirstUnfairUptoSaid : Prop := fnFirstUnfairUptoRow.holds Try.pinned (OpenSpec.upto fnFirstUnfairSpec)

/-- 'laws.FnFirstUnfairFair', WHERE WHAT IT READS IS OF BULK AT MOST 1048576: true; the input reads as it did. -/
def fnFirstUnfairFairUptoRow : OpenClaim := { program := "ytfjdicjfcdnolaa", sum := "fe9814d708f2d3d7070b5f79e9423ca964f6e35b8b1a997179dca3d9d28e4f68", func := "loop.example/transitfares/laws.FnFirstUnfairFair", spec := "fnFirstUnfairFair", apart := false, narrowed := true }
def FnFirstUnfairFairUptoSaid : Prop := fnFirstUnfairFairUptoRow.holds Try.pinned (OpenSpec.upto fnFirstUnfairFairSpec)

/-- 'laws.FnFairPrices', WHERE WHAT IT READS IS OF BULK AT MOST 1048576: true; the input reads as it did. -/
def fnFairPricesUptoRow : OpenClaim := { program := "ytfjdicjfcdnolaa", sum := "fe9814d708f2d3d7070b5f79e9423ca964f6e35b8b1a997179dca3d9d28e4f68", func := "loop.example/transitfares/laws.FnFairPrices", spec := "fnFairPrices", apart := false, narrowed := true }
def FnFairPricesUptoSaid : Prop := fnFairPricesUptoRow.holds Try.pinned (OpenSpec.upto fnFairPricesSpec)

/-- 'laws.FnFareOfZone', WHERE WHAT IT READS IS OF BULK AT MOST 1048576: true; the input reads as it did. -/
def fnFareOfZoneUptoRow : OpenClaim := { program := "ytfjdicjfcdnolaa", sum := "fe9814d708f2d3d7070b5f79e9423ca964f6e35b8b1a997179dca3d9d28e4f68", func := "loop.example/transitfares/laws.FnFareOfZone", spec := "fnFareOfZone", apart := false, narrowed := true }
def FnFareOfZoneUptoSaid : Prop := fnFareOfZoneUptoRow.holds Try.pinned (OpenSpec.upto fnFareOfZoneSpec)

/-- 'laws.FnExactIsPeak', WHERE WHAT IT READS IS OF BULK AT MOST 1048576: true; the input reads as it did. -/
def fnExactIsPeakUptoRow : OpenClaim := { program := "ytfjdicjfcdnolaa", sum := "fe9814d708f2d3d7070b5f79e9423ca964f6e35b8b1a997179dca3d9d28e4f68", func := "loop.example/transitfares/laws.FnExactIsPeak", spec := "fnExactIsPeak", apart := false, narrowed := true }
def FnExactIsPeakUptoSaid : Prop := fnExactIsPeakUptoRow.holds Try.pinned (OpenSpec.upto fnExactIsPeakSpec)

/-- 'laws.FnExactValidTariff', WHERE WHAT IT READS IS OF BULK AT MOST 1048576: true; the input reads as it did. -/
def fnExactValidTariffUptoRow : OpenClaim := { program := "ytfjdicjfcdnolaa", sum := "fe9814d708f2d3d7070b5f79e9423ca964f6e35b8b1a997179dca3d9d28e4f68", func := "loop.example/transitfares/laws.FnExactValidTariff", spec := "fnExactValidTariff", apart := false, narrowed := true }
def FnExactValidTariffUptoSaid : Prop := fnExactValidTariffUptoRow.holds Try.pinned (OpenSpec.upto fnExactValidTariffSpec)

/-- 'laws.FnExactBasePrice', WHERE WHAT IT READS IS OF BULK AT MOST 1048576: true; the input reads as it did. -/
def fnExactBasePriceUptoRow : OpenClaim := { program := "ytfjdicjfcdnolaa", sum := "fe9814d708f2d3d7070b5f79e9423ca964f6e35b8b1a997179dca3d9d28e4f68", func := "loop.example/transitfares/laws.FnExactBasePrice", spec := "fnExactBasePrice", apart := false, narrowed := true }
def FnExactBasePriceUptoSaid : Prop := fnExactBasePriceUptoRow.holds Try.pinned (OpenSpec.upto fnExactBasePriceSpec)

/-- 'laws.FnExactFareOf', WHERE WHAT IT READS IS OF BULK AT MOST 1048576: true; the input reads as it did. -/
def fnExactFareOfUptoRow : OpenClaim := { program := "ytfjdicjfcdnolaa", sum := "fe9814d708f2d3d7070b5f79e9423ca964f6e35b8b1a997179dca3d9d28e4f68", func := "loop.example/transitfares/laws.FnExactFareOf", spec := "fnExactFareOf", apart := false, narrowed := true }
def FnExactFareOfUptoSaid : Prop := fnExactFareOfUptoRow.holds Try.pinned (OpenSpec.upto fnExactFareOfSpec)

/-- 'laws.FnExactFirstUnfair', WHERE WHAT IT READS IS OF BULK AT MOST 1048576: true; the input reads as it did. -/
def fnExactFirstUnfairUptoRow : OpenClaim := { program := "ytfjdicjfcdnolaa", sum := "fe9814d708f2d3d7070b5f79e9423ca964f6e35b8b1a997179dca3d9d28e4f68", func := "loop.example/transitfares/laws.FnExactFirstUnfair", spec := "fnExactFirstUnfair", apart := false, narrowed := true }
def FnExactFirstUnfairUptoSaid : Prop := fnExactFirstUnfairUptoRow.holds Try.pinned (OpenSpec.upto fnExactFirstUnfairSpec)

/-- 'laws.FnExactFairPrices', WHERE WHAT IT READS IS OF BULK AT MOST 1048576: true; the input reads as it did. -/
def fnExactFairPricesUptoRow : OpenClaim := { program := "ytfjdicjfcdnolaa", sum := "fe9814d708f2d3d7070b5f79e9423ca964f6e35b8b1a997179dca3d9d28e4f68", func := "loop.example/transitfares/laws.FnExactFairPrices", spec := "fnExactFairPrices", apart := false, narrowed := true }
def FnExactFairPricesUptoSaid : Prop := fnExactFairPricesUptoRow.holds Try.pinned (OpenSpec.upto fnExactFairPricesSpec)

end Rows
end Go.Proofs.Ytfjdicjfcdnolaa
