/-
  Rows that have been begun, in later worlds.
-/
import Derived.Test.YtpdlngekeeaocaaDoorAggBox
set_option linter.unusedSimpArgs false
set_option linter.unusedVariables false
namespace Go.Proofs.YtpdlngekeeaocaaDoor
open Go.RowKit
theorem startsOver {w w' : World} {g : Nat} {t : TypeId} {n : Nat} {vs : List Value} (h : Starts w g t n vs) (hb : Below w.heap.size w w') : Starts w' g t n vs := h.below hb h.lt
theorem startsUp {w : World} {g : Nat} {t : TypeId} {n : Nat} {vs : List Value} (h : Starts w g t n vs) (o : Obj) : Starts (w.alloc o) g t n vs := startsOver h (bA (Below.refl _ _) _)
end Go.Proofs.YtpdlngekeeaocaaDoor
