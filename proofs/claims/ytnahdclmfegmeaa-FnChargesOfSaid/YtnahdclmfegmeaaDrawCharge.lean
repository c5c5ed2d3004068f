/-
  Drawn charges and caps: at most twenty-five charges, their numbers in a small range; only new memory is laid.
-/
import Derived.Test.YtnahdclmfegmeaaStCharge
import Derived.Test.YtnahdclmfegmeaaStInt
import Derived.Test.YtnahdclmfegmeaaDrawKit
import Derived.Test.YtnahdclmfegmeaaLiftBytes
import Derived.Test.YtnahdclmfegmeaaReg
import Derived.Deep.AppendLies
namespace Go.Proofs.Ytnahdclmfegmeaa
open Go.RowKit Go.Deep
set_option linter.unusedVariables false

def chargeSmall (b : Fares.Charge) : Prop := -1 ≤ b.d ∧ b.d ≤ 29 ∧ -1 ≤ b.a ∧ b.a ≤ 4001
def SomeCharges (g p : Nat) (w : World) (e : Ending) (w' : World) : Prop :=
  ∃ (v : Value) (ys : List Fares.Charge) (q : Nat), e = .returned v ∧ OwnCharges w' w.heap.size v ys ∧ ys.length ≤ 25 ∧ (∀ b ∈ ys, chargeSmall b) ∧ q ≤ p + 60 ∧ Rd w' g q ∧ w.grownBy w' (some g)
theorem info_charge2 : (Try.prog.info? 59).map (fun i => (i.zero, i.size, i.bytes)) = some (some (.agg #[.int .i64 0, .int .i64 0]), 2, 16) := by kernel_rfl

theorem OwnCharges.base {w : World} {b b' : Nat} {v : Value} {ys : List Fares.Charge} (h : OwnCharges w b v ys) (hb : b' ≤ b) : OwnCharges w b' v ys := ownBase h hb
def DrawsCaps (w : World) (e : Ending) (w' : World) : Prop :=
  ∃ (v : Value) (ys : List Fares.Charge) (a b : Int), e = .returned (.tuple #[v, .int .i64 a, .int .i64 b]) ∧ OwnCharges w' w.heap.size v ys ∧ ys.length ≤ 25 ∧ (∀ b ∈ ys, chargeSmall b) ∧ -1 ≤ a ∧ a ≤ 50001 ∧ -1 ≤ b ∧ b ≤ 50001 ∧ Below w.heap.size w w'
def DrawsCharges (w : World) (e : Ending) (w' : World) : Prop :=
  ∃ (v : Value) (ys : List Fares.Charge), e = .returned v ∧ OwnCharges w' w.heap.size v ys ∧ ys.length ≤ 25 ∧ (∀ b ∈ ys, chargeSmall b) ∧ Below w.heap.size w w'

end Go.Proofs.Ytnahdclmfegmeaa
