/-
  What caps save: the program's function and its model.
-/
import Derived.Test.YtnahdclmfegmeaaCapSum
namespace Go.Proofs.Ytnahdclmfegmeaa
open Go.RowKit Go.Deep
set_option linter.unusedVariables false

end Go.Proofs.Ytnahdclmfegmeaa
