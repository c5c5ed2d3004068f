/-
  Chapter 6: the charges of valid journeys are valid.
-/
import Derived.Test.YtnahdclmfegmeaaChargesMath
import Derived.Test.YtnahdclmfegmeaaChargeMath
import Derived.Test.YtnahdclmfegmeaaJourLaw
namespace Go.Proofs.Ytnahdclmfegmeaa.Fares
theorem chargeList_get : ∀ {xs : List Journey} {am : List Int} {k : Nat} {x : Journey} {a : Int}, xs[k]? = some x → am[k]? = some a → (chargeList xs am)[k]? = some ⟨(x.x + 1200) / 1440, a⟩
  | [], _, _, _, _, h, _ => by simp at h
  | _ :: _, [], _, _, _, _, h => by simp at h
  | j :: xs, b :: am, 0, x, a, h1, h2 => by
    simp at h1 h2
    subst h1 h2
    simp [chargeList]
  | j :: xs, b :: am, k + 1, x, a, h1, h2 => by
    rw [chargeList, List.getElem?_cons_succ]
    exact chargeList_get (by simpa using h1) (by simpa using h2)
theorem jourOk_of {xs : List Journey} {k : Nat} {j : Journey} (hv : validJourneys xs = true) (h : xs[k]? = some j) : freeAt xs k ≤ j.x := by
  unfold validJourneys at hv
  simp only [Bool.and_eq_true, List.all_eq_true, List.mem_range] at hv
  have hl : k < xs.length := (List.getElem?_eq_some_iff.1 h).1
  have := hv.2 k hl
  rw [jourOkAt_of h] at this
  simp only [Bool.and_eq_true, decide_eq_true_eq] at this
  exact this.2
theorem chargeList_valid {xs : List Journey} {am : List Int} (hv : validJourneys xs = true) (hl : am.length = xs.length) (ha : amountsOk am = true) : validCharges (chargeList xs am) = true := by
  unfold validCharges
  simp only [Bool.and_eq_true, decide_eq_true_eq, List.all_eq_true, List.mem_range]
  have hlen : (chargeList xs am).length = xs.length := by rw [chargeList_length]; omega
  refine ⟨by have := length_of_valid hv; omega, fun k hk => ?_⟩
  have hx : xs[k]? = some (xs[k]'(by omega)) := List.getElem?_eq_getElem (by omega)
  have hm : am[k]? = some (am[k]'(by omega)) := List.getElem?_eq_getElem (by omega)
  have hj := journey_in (validJourney_of hv hx)
  have ham := amountsOk_of ha hm
  rw [chargeOkAt_of (chargeList_get hx hm)]
  have hbefore : dayBefore (chargeList xs am) k ≤ ((xs[k]'(by omega)).x + 1200) / 1440 := by
    cases k with
    | zero => simp only [dayBefore]; omega
    | succ m =>
      have hp : xs[m]? = some (xs[m]'(by omega)) := List.getElem?_eq_getElem (by omega)
      have hq : am[m]? = some (am[m]'(by omega)) := List.getElem?_eq_getElem (by omega)
      rw [dayBefore_succ (chargeList_get hp hq)]
      have h1 := jourOk_of hv hx
      rw [freeAt_succ hp] at h1
      have h2 := journey_in (validJourney_of hv hp)
      dsimp only
      omega
  simp only [Bool.and_eq_true, decide_eq_true_eq, chargeOk]
  refine ⟨?_, hbefore⟩
  omega
theorem chargesOf_ok {xs : List Journey} {am : List Int} (h : (chargesOf xs am).2 = true) : validJourneys xs = true ∧ am.length = xs.length ∧ amountsOk am = true ∧ (chargesOf xs am).1 = chargeList xs am := by
  unfold chargesOf at h ⊢
  by_cases hv : validJourneys xs && decide (am.length = xs.length) && amountsOk am
  · rw [if_pos hv]
    simp only [Bool.and_eq_true, decide_eq_true_eq] at hv
    exact ⟨hv.1.1, hv.1.2, hv.2, rfl⟩
  · rw [if_neg hv] at h; simp at h
end Go.Proofs.Ytnahdclmfegmeaa.Fares
