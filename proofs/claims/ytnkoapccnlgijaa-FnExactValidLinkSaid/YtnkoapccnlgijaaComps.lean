/-
  Plain structures, one for each struct of numbers and lists.
-/
import Derived.Test.YtnkoapccnlgijaaTypes
set_option linter.unusedSimpArgs false
set_option linter.unusedVariables false
namespace Go.Proofs.Ytnkoapccnlgijaa.Fares
structure Deny where
  ver : Int
  cards : List Int
deriving DecidableEq
structure Delta where
  src : Int
  dst : Int
  add : List Int
  rem : List Int
deriving DecidableEq
structure Gate where
  val : Int
  nxt : Int
  deny : Deny
  kept : List Tap
deriving DecidableEq
structure Pass where
  src : Int
  dst : Int
  zones : List Int
deriving DecidableEq
structure Msg where
  typ : Int
  fields : List Field
deriving DecidableEq
structure Link where
  nxt : Int
  opn : List Call
deriving DecidableEq
end Go.Proofs.Ytnkoapccnlgijaa.Fares
