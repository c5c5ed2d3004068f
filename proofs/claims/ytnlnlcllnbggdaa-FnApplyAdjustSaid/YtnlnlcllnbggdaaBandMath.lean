/-
  Chapter 1: bands and peaks as plain functions on lists.
-/
import Derived.Test.YtnlnlcllnbggdaaTapMath
set_option linter.unusedSimpArgs false
set_option linter.unusedVariables false
namespace Go.Proofs.Ytnlnlcllnbggdaa.Fares
def bandOk (b : Band) : Bool := decide (0 ≤ b.lo ∧ b.lo < b.hi ∧ b.hi ≤ 1440)
def bandFree (xs : List Band) : Nat → Int
  | 0 => 0
  | m + 1 => match xs[m]? with | some p => p.hi | none => 0
def bandOkAt (xs : List Band) (k : Nat) : Bool :=
  match xs[k]? with
  | some b => bandOk b && decide (bandFree xs k ≤ b.lo)
  | none => true
def validBands (xs : List Band) : Bool := decide (xs.length ≤ 3) && (List.range xs.length).all (bandOkAt xs)
def inBand (b : Band) (clock : Int) : Bool := decide (b.lo ≤ clock ∧ clock < b.hi)
def dayOf (m : Int) : Int := (m + 1200) / 1440
def workday (d : Int) : Bool := decide (d % 7 < 5)
def isPeak (xs : List Band) (m : Int) : Bool := minuteOk m && validBands xs && workday (dayOf m) && xs.any (fun b => inBand b (m % 1440))
theorem bandOkAt_of {xs : List Band} {k : Nat} {b : Band} (h : xs[k]? = some b) : bandOkAt xs k = (bandOk b && decide (bandFree xs k ≤ b.lo)) := by
  unfold bandOkAt; rw [h]
theorem bandFree_succ {xs : List Band} {k : Nat} {b : Band} (h : xs[k]? = some b) : bandFree xs (k + 1) = b.hi := by
  simp only [bandFree, h]
theorem length_of_validBands {xs : List Band} (h : validBands xs = true) : xs.length ≤ 3 := by
  unfold validBands at h
  simp only [Bool.and_eq_true, decide_eq_true_eq] at h
  exact h.1
end Go.Proofs.Ytnlnlcllnbggdaa.Fares
