/-
  Chapter 4: valid journeys, their minutes, the halves; as plain functions on lists.
-/
import Derived.Test.YtllhjgheffemnaaTapMath
set_option linter.unusedSimpArgs false
set_option linter.unusedVariables false
namespace Go.Proofs.Ytllhjgheffemnaa.Fares
def validJourney (j : Journey) : Bool :=
  decide (0 ≤ j.a ∧ j.a ≤ 9 ∧ 0 ≤ j.b ∧ j.b ≤ 9 ∧ 0 ≤ j.x ∧ j.x ≤ 40319 ∧ 0 ≤ j.y ∧ j.y ≤ 40319 ∧ j.x ≤ j.y ∧ j.y - j.x ≤ 180 ∧ (j.f = true ∨ (j.a = j.b ∧ j.x = j.y)))
/-- The end of the journey before place k. -/
def freeAt (xs : List Journey) : Nat → Int
  | 0 => 0
  | m + 1 => match xs[m]? with | some p => p.y | none => 0
def jourOkAt (xs : List Journey) (k : Nat) : Bool :=
  match xs[k]? with
  | some j => validJourney j && decide (freeAt xs k ≤ j.x)
  | none => true
def validJourneys (xs : List Journey) : Bool := decide (xs.length ≤ 24) && (List.range xs.length).all (jourOkAt xs)
def rideSum : List Journey → Int
  | [] => 0
  | j :: r => j.y - j.x + rideSum r
def rideMinutes (xs : List Journey) : Int := if validJourneys xs then rideSum xs else -1
def halfSum : List Journey → Int
  | [] => 0
  | j :: r => (if j.f then 0 else 1) + halfSum r
def halfCount (xs : List Journey) : Int := if validJourneys xs then halfSum xs else -1

theorem jourOkAt_of {xs : List Journey} {k : Nat} {j : Journey} (h : xs[k]? = some j) : jourOkAt xs k = (validJourney j && decide (freeAt xs k ≤ j.x)) := by
  unfold jourOkAt; rw [h]
theorem freeAt_succ {xs : List Journey} {k : Nat} {j : Journey} (h : xs[k]? = some j) : freeAt xs (k + 1) = j.y := by
  simp only [freeAt, h]
theorem rideSum_append (xs ys : List Journey) : rideSum (xs ++ ys) = rideSum xs + rideSum ys := by
  induction xs with
  | nil => simp [rideSum]
  | cons j r ih => simp [rideSum, ih]; omega
theorem halfSum_append (xs ys : List Journey) : halfSum (xs ++ ys) = halfSum xs + halfSum ys := by
  induction xs with
  | nil => simp [halfSum]
  | cons j r ih => simp [halfSum, ih]; omega
theorem rideSum_next {xs : List Journey} {k : Nat} {j : Journey} (h : xs[k]? = some j) : rideSum (xs.take (k + 1)) = rideSum (xs.take k) + (j.y - j.x) := by
  rw [List.take_add_one, h, rideSum_append]; simp [rideSum]
theorem halfSum_next {xs : List Journey} {k : Nat} {j : Journey} (h : xs[k]? = some j) : halfSum (xs.take (k + 1)) = halfSum (xs.take k) + (if j.f then 0 else 1) := by
  rw [List.take_add_one, h, halfSum_append]; simp [halfSum]
theorem validJourney_of {xs : List Journey} {k : Nat} {j : Journey} (hv : validJourneys xs = true) (h : xs[k]? = some j) : validJourney j = true := by
  unfold validJourneys at hv
  simp only [Bool.and_eq_true, List.all_eq_true, List.mem_range] at hv
  have hl : k < xs.length := (List.getElem?_eq_some_iff.1 h).1
  have := hv.2 k hl
  rw [jourOkAt_of h] at this
  simp only [Bool.and_eq_true] at this
  exact this.1
theorem length_of_valid {xs : List Journey} (hv : validJourneys xs = true) : xs.length ≤ 24 := by
  unfold validJourneys at hv
  simp only [Bool.and_eq_true, decide_eq_true_eq] at hv
  exact hv.1
end Go.Proofs.Ytllhjgheffemnaa.Fares
