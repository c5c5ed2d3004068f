/-
  Plain structures, one for each flat struct of the program.
-/
set_option linter.unusedSimpArgs false
set_option linter.unusedVariables false
namespace Go.Proofs.Ytnkoapccnlgijaa.Fares
structure Band where
  lo : Int
  hi : Int
deriving DecidableEq
structure Tap where
  v : Int
  n : Int
  c : Int
  m : Int
  s : Int
  o : Bool
deriving DecidableEq
structure Journey where
  a : Int
  b : Int
  x : Int
  y : Int
  f : Bool
deriving DecidableEq
structure Field where
  n : Int
  v : Int
deriving DecidableEq
structure Call where
  t : Int
  a : Int
  s : Int
deriving DecidableEq
structure Sum where
  s : Int
  a : Int
  t : Int
deriving DecidableEq
structure Event where
  k : Int
  a : Int
deriving DecidableEq
structure Note where
  b : Int
  a : Int
  k : Bool
deriving DecidableEq
structure Debt where
  d : Int
  a : Int
deriving DecidableEq
structure Leg where
  o : Int
  l : Int
deriving DecidableEq
structure Adjust where
  d : Int
  a : Int
deriving DecidableEq
structure Charge where
  d : Int
  a : Int
deriving DecidableEq
end Go.Proofs.Ytnkoapccnlgijaa.Fares
