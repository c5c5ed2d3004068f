/-
  Chapter 6: the charges of journeys; as plain functions on lists.
-/
import Derived.Test.YtnahdclmfegmeaaJourMath
namespace Go.Proofs.Ytnahdclmfegmeaa.Fares
def amountsOk (am : List Int) : Bool := am.all fun a => decide (0 ≤ a ∧ a ≤ 4000)
def chargeList : List Journey → List Int → List Charge
  | j :: xs, a :: am => ⟨(j.x + 1200) / 1440, a⟩ :: chargeList xs am
  | _, _ => []
/-- What ChargesOf hands back. -/
def chargesOf (xs : List Journey) (am : List Int) : List Charge × Bool :=
  if validJourneys xs && decide (am.length = xs.length) && amountsOk am then (chargeList xs am, true) else ([], false)
theorem chargeList_next : ∀ {xs : List Journey} {am : List Int} {k : Nat} {x : Journey} {a : Int}, xs[k]? = some x → am[k]? = some a →
    chargeList (xs.take (k + 1)) (am.take (k + 1)) = chargeList (xs.take k) (am.take k) ++ [⟨(x.x + 1200) / 1440, a⟩]
  | [], _, _, _, _, h, _ => by simp at h
  | _ :: _, [], _, _, _, _, h => by simp at h
  | j :: xs, b :: am, 0, x, a, h1, h2 => by
    simp at h1 h2
    subst h1 h2
    simp [chargeList]
  | j :: xs, b :: am, k + 1, x, a, h1, h2 => by
    have ih := chargeList_next (xs := xs) (am := am) (k := k) (x := x) (a := a) (by simpa using h1) (by simpa using h2)
    simp only [List.take_succ_cons, chargeList, List.cons_append]
    rw [ih]
theorem chargeList_length : ∀ (xs : List Journey) (am : List Int), (chargeList xs am).length = min xs.length am.length
  | [], _ => by simp [chargeList]
  | _ :: _, [] => by simp [chargeList]
  | _ :: xs, _ :: am => by simp only [chargeList, List.length_cons, chargeList_length xs am]; omega
theorem chargesOf_length (xs : List Journey) (am : List Int) : (chargesOf xs am).1.length ≤ 24 := by
  unfold chargesOf
  split
  · rename_i h
    simp only [Bool.and_eq_true] at h
    have := length_of_valid h.1.1
    show (chargeList xs am).length ≤ 24
    rw [chargeList_length]
    omega
  · simp
theorem amountsOk_of {am : List Int} (h : amountsOk am = true) {k : Nat} {a : Int} (hk : am[k]? = some a) : 0 ≤ a ∧ a ≤ 4000 := by
  unfold amountsOk at h
  rw [List.all_eq_true] at h
  simpa using h a (List.mem_of_getElem? hk)
theorem amountsOk_false {am : List Int} {k : Nat} {a : Int} (hk : am[k]? = some a) (h : ¬ (0 ≤ a ∧ a ≤ 4000)) : amountsOk am = false := by
  unfold amountsOk
  rw [List.all_eq_false]
  exact ⟨a, List.mem_of_getElem? hk, by simpa using h⟩
theorem amountsOk_true {am : List Int} (h : ∀ (k : Nat) (a : Int), am[k]? = some a → 0 ≤ a ∧ a ≤ 4000) : amountsOk am = true := by
  unfold amountsOk
  rw [List.all_eq_true]
  intro a ha
  obtain ⟨i, hi⟩ := List.getElem?_of_mem ha
  simpa using h i a hi
end Go.Proofs.Ytnahdclmfegmeaa.Fares
