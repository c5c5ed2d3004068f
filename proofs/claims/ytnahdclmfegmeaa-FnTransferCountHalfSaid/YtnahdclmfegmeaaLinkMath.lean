/-
  Chapter 5: which journeys belong to the one before them; as plain functions.
-/
import Derived.Test.YtnahdclmfegmeaaJourMath
namespace Go.Proofs.Ytnahdclmfegmeaa.Fares
def windowOk (w : Int) : Bool := decide (0 ≤ w ∧ w ≤ 120)
def belongs (p j : Journey) (w : Int) : Bool := p.f && j.f && decide (j.x - p.y ≤ w)
def belongsAt (xs : List Journey) (w : Int) : Nat → Bool
  | 0 => false
  | m + 1 => match xs[m]?, xs[m + 1]? with
    | some p, some j => belongs p j w
    | _, _ => false
def transferSum (xs : List Journey) (w : Int) : Nat → Int
  | 0 => 0
  | k + 1 => transferSum xs w k + (if belongsAt xs w k then 1 else 0)
def transferCount (xs : List Journey) (w : Int) : Int := if validJourneys xs && windowOk w then transferSum xs w xs.length else -1
theorem belongsAt_of {xs : List Journey} {w : Int} {m : Nat} {p j : Journey} (hp : xs[m]? = some p) (hj : xs[m + 1]? = some j) : belongsAt xs w (m + 1) = belongs p j w := by
  simp only [belongsAt, hp, hj]
theorem transferSum_bounds (xs : List Journey) (w : Int) : ∀ k, 0 ≤ transferSum xs w k ∧ transferSum xs w k ≤ k
  | 0 => by simp [transferSum]
  | k + 1 => by
    have ih := transferSum_bounds xs w k
    simp only [transferSum]
    split <;> omega
theorem transferSum_one (xs : List Journey) (w : Int) : transferSum xs w 1 = 0 := rfl
theorem journey_bounds {xs : List Journey} (hv : validJourneys xs = true) {k : Nat} {j : Journey} (h : xs[k]? = some j) : 0 ≤ j.x ∧ j.x ≤ 40319 ∧ 0 ≤ j.y ∧ j.y ≤ 40319 := by
  have := validJourney_of hv h
  unfold validJourney at this
  rw [decide_eq_true_eq] at this
  omega
end Go.Proofs.Ytnahdclmfegmeaa.Fares
