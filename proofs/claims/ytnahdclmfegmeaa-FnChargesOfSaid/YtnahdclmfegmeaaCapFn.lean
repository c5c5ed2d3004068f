/-
  Charges with caps: the model's functions.
-/
import Derived.Test.YtnahdclmfegmeaaChargeFn
import Derived.Test.YtnahdclmfegmeaaStInt
import Derived.Deep.AppendLies
namespace Go.Proofs.Ytnahdclmfegmeaa
open Go.RowKit Go.Deep
set_option linter.unusedVariables false

end Go.Proofs.Ytnahdclmfegmeaa
