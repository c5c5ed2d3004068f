/-
  Chapter 3: taps put in one after the other; as plain functions on lists.
-/
import Derived.Test.YtmbgaohnnkmidaaAddMath
set_option linter.unusedSimpArgs false
set_option linter.unusedVariables false
namespace Go.Proofs.Ytmbgaohnnkmidaa.Fares
def putTap (acc : List Tap) (t : Tap) : List Tap := if (addTap acc t).2 then (addTap acc t).1 else acc
def collectTaps (xs : List Tap) : List Tap := if xs.length > 48 then [] else xs.foldl putTap []
theorem putTap_length (acc : List Tap) (t : Tap) (h : acc.length ≤ 49) : (putTap acc t).length ≤ 49 := by
  unfold putTap
  split
  · exact addTap_length acc t
  · exact h
theorem fold_length : ∀ (xs acc : List Tap), acc.length ≤ 49 → (xs.foldl putTap acc).length ≤ 49
  | [], _, h => h
  | x :: xs, acc, h => fold_length xs (putTap acc x) (putTap_length acc x h)
theorem collectTaps_length (xs : List Tap) : (collectTaps xs).length ≤ 49 := by
  unfold collectTaps
  split
  · simp
  · exact fold_length xs [] (by simp)
theorem fold_next {xs : List Tap} {k : Nat} {x : Tap} (h : xs[k]? = some x) : (xs.take (k + 1)).foldl putTap [] = putTap ((xs.take k).foldl putTap []) x := by
  rw [List.take_add_one, h, List.foldl_append]; rfl
end Go.Proofs.Ytmbgaohnnkmidaa.Fares
