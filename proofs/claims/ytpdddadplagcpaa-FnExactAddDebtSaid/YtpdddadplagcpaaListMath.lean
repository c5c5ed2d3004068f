/-
  Plain lists: filters of beginnings.
-/
set_option linter.unusedSimpArgs false
set_option linter.unusedVariables false
namespace Go.Proofs.Ytpdddadplagcpaa.Fares
theorem filter_take_next {T : Type} {xs : List T} {k : Nat} {x : T} (h : xs[k]? = some x) (p : T → Bool) : (xs.take (k + 1)).filter p = (xs.take k).filter p ++ (if p x then [x] else []) := by
  rw [List.take_add_one, h, List.filter_append]
  simp only [Option.toList_some, List.filter_cons, List.filter_nil]
theorem filter_take_le {T : Type} (xs : List T) (k : Nat) (p : T → Bool) : ((xs.take k).filter p).length ≤ k := by
  have h1 := List.length_filter_le p (xs.take k)
  have h2 := List.length_take_le k xs
  omega
end Go.Proofs.Ytpdddadplagcpaa.Fares
