/-
  Sums of numbers.
-/
set_option linter.unusedSimpArgs false
set_option linter.unusedVariables false
namespace Go.Proofs.Ytgecgjndbaeahaa.Fares
def sumI : List Int → Int
  | [] => 0
  | x :: r => x + sumI r
theorem sumI_append (xs ys : List Int) : sumI (xs ++ ys) = sumI xs + sumI ys := by
  induction xs with
  | nil => simp [sumI]
  | cons x r ih => simp [sumI, ih]; omega
theorem sumI_next {xs : List Int} {k : Nat} {x : Int} (h : xs[k]? = some x) : sumI (xs.take (k + 1)) = sumI (xs.take k) + x := by
  rw [List.take_add_one, h, sumI_append]; simp [sumI]
end Go.Proofs.Ytgecgjndbaeahaa.Fares
