/-
  Sums of charges: of days, and what caps save; the program's functions and their models.
-/
import Derived.Test.YtnahdclmfegmeaaCapImpl
namespace Go.Proofs.Ytnahdclmfegmeaa
open Go.RowKit Go.Deep
set_option linter.unusedVariables false

end Go.Proofs.Ytnahdclmfegmeaa
