/-
  Chapters 3 and 4 as plain functions on lists.
-/
import Derived.Test.YtnkoapccnlgijaaTypes
set_option linter.unusedSimpArgs false
set_option linter.unusedVariables false
namespace Go.Proofs.Ytnkoapccnlgijaa.Fares
def stopOk (s : Int) : Bool := decide (0 ≤ s ∧ s ≤ 9)
def minuteOk (m : Int) : Bool := decide (0 ≤ m ∧ m ≤ 40319)
def validTap (t : Tap) : Bool := decide (0 ≤ t.v ∧ t.v ≤ 9 ∧ 0 ≤ t.n ∧ t.n ≤ 999 ∧ 0 ≤ t.c ∧ t.c ≤ 99 ∧ 0 ≤ t.m ∧ t.m ≤ 40319 ∧ 0 ≤ t.s ∧ t.s ≤ 9)
def earlier (a b : Tap) : Bool := decide (a.m < b.m ∨ a.m = b.m ∧ (a.v < b.v ∨ a.v = b.v ∧ a.n < b.n))
def sameTap (a b : Tap) : Bool := decide (a.v = b.v ∧ a.n = b.n)
def known (xs : List Tap) (t : Tap) : Bool := xs.any fun o => sameTap o t
/-- The tap at place i is valid, has a number of its own among those before it, and is later than the one before it. -/
def tapOkAt (xs : List Tap) (i : Nat) : Bool :=
  match xs[i]? with
  | some t => validTap t && !known (xs.take i) t && (match i with | 0 => true | j + 1 => match xs[j]? with | some p => earlier p t | none => true)
  | none => true
def validTaps (xs : List Tap) : Bool := decide (xs.length ≤ 24) && (List.range xs.length).all (tapOkAt xs)

def signI (a b : Int) : Int := if a < b then -1 else if b < a then 1 else 0
def compareTaps (a b : Tap) : Int := if signI a.m b.m ≠ 0 then signI a.m b.m else if signI a.v b.v ≠ 0 then signI a.v b.v else signI a.n b.n
theorem compare_earlier (a b : Tap) : decide (compareTaps a b ≥ 0) = !earlier a b := by
  rw [Bool.eq_iff_iff]
  unfold compareTaps signI earlier
  simp only [decide_eq_true_eq, Bool.not_eq_true', decide_eq_false_iff_not]
  (repeat' split) <;> omega

theorem all_range_false {n k : Nat} {p : Nat → Bool} (h : k < n) (hk : p k = false) : (List.range n).all p = false := by
  rw [List.all_eq_false]
  exact ⟨k, List.mem_range.2 h, by simp [hk]⟩
theorem all_range_true {n : Nat} {p : Nat → Bool} (h : ∀ j, j < n → p j = true) : (List.range n).all p = true := by
  rw [List.all_eq_true]
  exact fun j hj => h j (List.mem_range.1 hj)
theorem tapOkAt_zero {xs : List Tap} {t : Tap} (h : xs[0]? = some t) : tapOkAt xs 0 = validTap t := by
  unfold tapOkAt; rw [h]; simp [known]
theorem tapOkAt_succ {xs : List Tap} {t p : Tap} {j : Nat} (h : xs[j + 1]? = some t) (hp : xs[j]? = some p) : tapOkAt xs (j + 1) = (validTap t && !known (xs.take (j + 1)) t && earlier p t) := by
  unfold tapOkAt; rw [h]; simp [hp]
theorem known_take_succ {xs : List Tap} {k : Nat} {x : Tap} (h : xs[k]? = some x) (t : Tap) : known (xs.take (k + 1)) t = (known (xs.take k) t || sameTap x t) := by
  unfold known; rw [List.take_add_one, h]; simp
end Go.Proofs.Ytnkoapccnlgijaa.Fares
