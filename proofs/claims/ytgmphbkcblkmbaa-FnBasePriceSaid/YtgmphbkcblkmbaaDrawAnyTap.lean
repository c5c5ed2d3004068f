/-
  Drawn taps that may be invalid.
-/
import Derived.Test.YtgmphbkcblkmbaaDrawTap
set_option linter.unusedSimpArgs false
namespace Go.Proofs.Ytgmphbkcblkmbaa
open Go.RowKit
set_option linter.unusedVariables false
def tapSmall2_ (t : Fares.Tap) : Prop := -1 ≤ t.v ∧ t.v ≤ 1000 ∧ -1 ≤ t.n ∧ t.n ≤ 1000 ∧ -1 ≤ t.c ∧ t.c ≤ 1000 ∧ -1 ≤ t.m ∧ t.m ≤ 50000 ∧ -1 ≤ t.s ∧ t.s ≤ 1000
def SomeTap2 (g p : Nat) (w : World) (e : Ending) (w' : World) : Prop :=
  ∃ (t : Fares.Tap) (q : Nat), e = .returned (tapV t) ∧ tapSmall t ∧ q ≤ p + 14 ∧ Rd w' g q ∧ w.grownBy w' (some g)

end Go.Proofs.Ytgmphbkcblkmbaa
