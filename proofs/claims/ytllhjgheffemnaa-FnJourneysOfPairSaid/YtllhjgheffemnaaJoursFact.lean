/-
  Chapter 4: how many journeys a card's taps make; their times.
-/
import Derived.Test.YtllhjgheffemnaaTapCards
import Derived.Test.YtllhjgheffemnaaRideMath
set_option linter.unusedSimpArgs false
namespace Go.Proofs.Ytllhjgheffemnaa
open Go.RowKit
set_option linter.unusedVariables false

theorem Fares.cardTaps_in (xs : List Fares.Tap) (card : Int) : ∀ t ∈ Fares.cardTaps xs card, -100000 ≤ t.m ∧ t.m ≤ 100000 := by
  intro t ht
  unfold Fares.cardTaps at ht
  split at ht
  · rename_i hv
    obtain ⟨k, hk⟩ := List.getElem?_of_mem (List.mem_filter.1 ht).1
    have := Fares.validTap_of hv hk
    unfold Fares.validTap at this
    rw [decide_eq_true_eq] at this
    omega
  · simp at ht
theorem Fares.ridesOf_length : ∀ (n : Nat) (xs : List Fares.Tap), xs.length ≤ n → (Fares.ridesOf xs).length ≤ xs.length
  | _, [], _ => Nat.le_refl _
  | _, [a], _ => Nat.le_refl _
  | 0, a :: b :: r, h => by simp at h
  | n + 1, a :: b :: r, h => by
    unfold Fares.ridesOf
    split
    · have := Fares.ridesOf_length n r (by simp at h; omega)
      simp; omega
    · have := Fares.ridesOf_length n (b :: r) (by simp at h ⊢; omega)
      simp at this ⊢; omega
theorem Fares.journeysOf_card (xs : List Fares.Tap) (card : Int) : (Fares.journeysOf (Fares.cardTaps xs card)).length ≤ 24 := by
  rw [Fares.journeysOf_rides, List.length_map]
  exact Nat.le_trans (Fares.ridesOf_length _ _ (Nat.le_refl _)) (Fares.cardTaps_length xs card)
end Go.Proofs.Ytllhjgheffemnaa
