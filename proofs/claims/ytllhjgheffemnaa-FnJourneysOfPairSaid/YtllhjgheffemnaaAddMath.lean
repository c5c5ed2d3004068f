/-
  Chapter 3: a tap put at its place; as plain functions on lists.
-/
import Derived.Test.YtllhjgheffemnaaTapMath
set_option linter.unusedSimpArgs false
set_option linter.unusedVariables false
namespace Go.Proofs.Ytllhjgheffemnaa.Fares
def insertTap (xs : List Tap) (t : Tap) : List Tap := xs.filter (fun o => earlier o t) ++ [t] ++ xs.filter (fun o => earlier t o)
/-- What AddTap hands back. -/
def addTap (xs : List Tap) (t : Tap) : List Tap × Bool :=
  if !validTaps xs || !validTap t then ([], false) else if known xs t then (xs, true) else if xs.length = 24 then ([], false) else (insertTap xs t, true)
theorem filterT_next {xs : List Tap} {k : Nat} {x : Tap} (h : xs[k]? = some x) (p : Tap → Bool) : (xs.take (k + 1)).filter p = (xs.take k).filter p ++ (if p x then [x] else []) := by
  rw [List.take_add_one, h, List.filter_append]
  simp only [Option.toList_some, List.filter_cons, List.filter_nil]
theorem filterT_length_le (xs : List Tap) (k : Nat) (p : Tap → Bool) : ((xs.take k).filter p).length ≤ k := by
  have h1 := List.length_filter_le p (xs.take k)
  have h2 := List.length_take_le k xs
  omega
theorem length_of_validTaps' {xs : List Tap} (h : validTaps xs = true) : xs.length ≤ 24 := by
  unfold validTaps at h
  simp only [Bool.and_eq_true, decide_eq_true_eq] at h
  exact h.1
theorem validTap_of {xs : List Tap} {k : Nat} {t : Tap} (hv : validTaps xs = true) (h : xs[k]? = some t) : validTap t = true := by
  unfold validTaps at hv
  simp only [Bool.and_eq_true, List.all_eq_true, List.mem_range] at hv
  have hk : k < xs.length := (List.getElem?_eq_some_iff.1 h).1
  have := hv.2 k hk
  unfold tapOkAt at this
  rw [h] at this
  simp only [Bool.and_eq_true] at this
  exact this.1.1
theorem addTap_length (xs : List Tap) (t : Tap) : (addTap xs t).1.length ≤ 49 := by
  unfold addTap
  split
  · simp
  · rename_i h
    simp only [Bool.or_eq_true, Bool.not_eq_true', not_or, Bool.not_eq_false] at h
    have hl := length_of_validTaps' h.1
    split
    · show xs.length ≤ 49
      omega
    · split
      · simp
      · have h1 := List.length_filter_le (fun o => earlier o t) xs
        have h2 := List.length_filter_le (fun o => earlier t o) xs
        show (insertTap xs t).length ≤ 49
        unfold insertTap
        simp only [List.length_append, List.length_cons, List.length_nil]
        omega
theorem filter_apart {T : Type} (p q : T → Bool) (h : ∀ x, p x = true → q x = false) : ∀ xs : List T, (xs.filter p).length + (xs.filter q).length ≤ xs.length
  | [] => by simp
  | x :: xs => by
    have ih := filter_apart p q h xs
    have hx := h x
    rw [List.filter_cons, List.filter_cons]
    cases hp : p x
    · cases hq : q x <;> simp <;> omega
    · rw [hx hp]; simp; omega
theorem earlier_apart (t x : Tap) (h : earlier x t = true) : earlier t x = false := by
  unfold earlier at h ⊢
  simp only [decide_eq_true_eq, decide_eq_false_iff_not] at h ⊢
  omega
theorem insertTap_length (xs : List Tap) (t : Tap) : (insertTap xs t).length ≤ xs.length + 1 := by
  have := filter_apart (fun o => earlier o t) (fun o => earlier t o) (fun x h => earlier_apart t x h) xs
  unfold insertTap
  simp only [List.length_append, List.length_cons, List.length_nil]
  omega
theorem mem_insertTap {xs : List Tap} {t o : Tap} (h : o ∈ insertTap xs t) : o ∈ xs ∨ o = t := by
  unfold insertTap at h
  simp only [List.mem_append, List.mem_filter, List.mem_cons, List.not_mem_nil, or_false] at h
  rcases h with (h | h) | h
  · exact .inl h.1
  · exact .inr h
  · exact .inl h.1
/-- A tap that was added: not more taps than may be, and none but those that were there and it. -/
theorem addTap_ok {xs : List Tap} {t : Tap} (h : (addTap xs t).2 = true) : (addTap xs t).1.length ≤ 24 ∧ ∀ o ∈ (addTap xs t).1, o ∈ xs ∨ o = t := by
  unfold addTap at h ⊢
  by_cases h1 : (!validTaps xs || !validTap t) = true
  · rw [if_pos h1] at h; cases h
  · rw [if_neg h1] at h ⊢
    simp only [Bool.or_eq_true, Bool.not_eq_true', not_or, Bool.not_eq_false] at h1
    have hl := length_of_validTaps' h1.1
    by_cases h2 : known xs t = true
    · rw [if_pos h2]; exact ⟨hl, fun o ho => .inl ho⟩
    · rw [if_neg h2] at h ⊢
      by_cases h3 : xs.length = 24
      · rw [if_pos h3] at h; cases h
      · rw [if_neg h3]
        exact ⟨by have := insertTap_length xs t; dsimp only; omega, fun o ho => mem_insertTap ho⟩
end Go.Proofs.Ytllhjgheffemnaa.Fares
