/-
  The reader carried over calls.
-/
import Derived.Test.YtllhjgheffemnaaDrawKit
import Derived.Test.YtllhjgheffemnaaOver
set_option linter.unusedSimpArgs false
namespace Go.Proofs.Ytllhjgheffemnaa
open Go.RowKit
set_option linter.unusedVariables false
theorem Rd.belowAll {w w' : World} {g p : Nat} (h : Rd w g p) (hb : Below w.heap.size w w') : Rd w' g p := h.below (hb.mono h.lt)
theorem Rd.setCells {w : World} {g p gb : Nat} (h : Rd w g p) (hb : g < gb) (vs : List Value) (o : Nat) : Rd (w.setCells gb o vs) g p := h.below (below_cells hb vs w o (Below.refl _ _))
end Go.Proofs.Ytllhjgheffemnaa
