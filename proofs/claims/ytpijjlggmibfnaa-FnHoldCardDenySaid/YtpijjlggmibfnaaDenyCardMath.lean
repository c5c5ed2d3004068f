/-
  One card more or less on a deny list.
-/
import Derived.Test.YtpijjlggmibfnaaDenyMath
set_option linter.unusedSimpArgs false
set_option linter.unusedVariables false
namespace Go.Proofs.Ytpijjlggmibfnaa.Fares
def isIn (xs : List Int) (c : Int) : Bool := xs.any fun x => x == c
def changed (xs : List Int) (n : Int) (b : Bool) : List Int := xs.filter (fun x => decide (x < n)) ++ (if b then [n] else []) ++ xs.filter (fun x => decide (n < x))
noncomputable def denyCard (d : Deny) (c : Int) (b : Bool) : Deny × Bool :=
  if validDeny d && decide (0 ≤ c ∧ c ≤ 99) && !(isIn d.cards c == b) && validDeny ⟨d.ver + 1, changed d.cards c b⟩ then (⟨d.ver + 1, changed d.cards c b⟩, true) else (⟨0, []⟩, false)
theorem isIn_take {xs : List Int} {c : Int} {k : Nat} {x : Int} (h : xs[k]? = some x) (hc : x = c) : isIn xs c = true := by
  unfold isIn
  rw [List.any_eq_true]
  exact ⟨x, List.mem_of_getElem? h, by simpa using hc⟩
theorem isIn_none {xs : List Int} {c : Int} (h : ∀ (k : Nat) (x : Int), xs[k]? = some x → x ≠ c) : isIn xs c = false := by
  unfold isIn
  rw [List.any_eq_false]
  intro x hx
  obtain ⟨k, hk⟩ := List.getElem?_of_mem hx
  simpa using h k x hk
theorem filter_take_succ {xs : List Int} {k : Nat} {x : Int} (p : Int → Bool) (h : xs[k]? = some x) : (xs.take (k + 1)).filter p = (xs.take k).filter p ++ (if p x then [x] else []) := by
  rw [List.take_add_one, h, List.filter_append]
  cases hp : p x <;> simp [hp]
theorem changed_length (xs : List Int) (n : Int) (b : Bool) : (changed xs n b).length ≤ 2 * xs.length + 1 := by
  unfold changed
  have h1 := List.length_filter_le (fun x => decide (x < n)) xs
  have h2 := List.length_filter_le (fun x => decide (n < x)) xs
  rw [List.length_append, List.length_append]
  cases b <;> simp <;> omega
end Go.Proofs.Ytpijjlggmibfnaa.Fares
