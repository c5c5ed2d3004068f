/-
  Chapter 5: what the laws ask of transfers.
-/
import Derived.Test.YtnahdclmfegmeaaLinkMath
import Derived.Test.YtnahdclmfegmeaaJourLaw
namespace Go.Proofs.Ytnahdclmfegmeaa.Fares
theorem belongsAt_mono {xs : List Journey} {w w' : Int} (h : w ≤ w') (k : Nat) (hb : belongsAt xs w k = true) : belongsAt xs w' k = true := by
  cases k with
  | zero => simp [belongsAt] at hb
  | succ m =>
    cases hp : xs[m]? with
    | none => simp [belongsAt, hp] at hb
    | some p =>
      cases hj : xs[m + 1]? with
      | none => simp [belongsAt, hp, hj] at hb
      | some j =>
        rw [belongsAt_of hp hj] at hb ⊢
        unfold belongs at hb ⊢
        simp only [Bool.and_eq_true, decide_eq_true_eq] at hb ⊢
        exact ⟨hb.1, by omega⟩
theorem transferSum_mono (xs : List Journey) {w w' : Int} (h : w ≤ w') : ∀ k, transferSum xs w k ≤ transferSum xs w' k
  | 0 => Int.le_refl _
  | k + 1 => by
    have ih := transferSum_mono xs h k
    simp only [transferSum]
    by_cases hb : belongsAt xs w k = true
    · rw [if_pos hb, if_pos (belongsAt_mono h k hb)]; omega
    · rw [if_neg hb]; split <;> omega
theorem transferSum_less (xs : List Journey) (w : Int) : ∀ k, transferSum xs w (k + 1) ≤ k
  | 0 => by simp [transferSum, belongsAt]
  | k + 1 => by
    have ih := transferSum_less xs w k
    rw [transferSum]
    split <;> omega
theorem transferSum_half (xs : List Journey) (w : Int) : ∀ k, k ≤ xs.length → transferSum xs w k + halfSum (xs.take k) ≤ k
  | 0, _ => by simp [transferSum, halfSum]
  | k + 1, h => by
    have ih := transferSum_half xs w k (by omega)
    have hx : xs[k]? = some xs[k] := List.getElem?_eq_getElem (by omega)
    rw [halfSum_next hx, transferSum]
    cases hf : xs[k].f
    · have hb : belongsAt xs w k = false := by
        cases k with
        | zero => rfl
        | succ m =>
          have hp : xs[m]? = some xs[m] := List.getElem?_eq_getElem (by omega)
          rw [belongsAt_of hp hx]
          unfold belongs
          rw [hf]
          simp
      rw [hb]
      simp
      omega
    · simp
      split <;> omega
theorem transferSum_bound (xs : List Journey) (w : Int) : transferSum xs w xs.length + halfSum xs ≤ xs.length := by
  have := transferSum_half xs w xs.length (Nat.le_refl _)
  rwa [List.take_length] at this
theorem transferCount_ok {xs : List Journey} {w : Int} (h : 0 ≤ transferCount xs w) : validJourneys xs = true ∧ 0 ≤ w ∧ w ≤ 120 ∧ transferCount xs w = transferSum xs w xs.length := by
  unfold transferCount at h ⊢
  by_cases hv : validJourneys xs && windowOk w
  · rw [if_pos hv]
    simp only [Bool.and_eq_true] at hv
    have hw := hv.2
    unfold windowOk at hw
    simp only [decide_eq_true_eq] at hw
    exact ⟨hv.1, hw.1, hw.2, rfl⟩
  · rw [if_neg hv] at h; omega
theorem transferCount_of {xs : List Journey} {w : Int} (hv : validJourneys xs = true) (h0 : 0 ≤ w) (h1 : w ≤ 120) : transferCount xs w = transferSum xs w xs.length := by
  unfold transferCount
  rw [hv, show windowOk w = true by unfold windowOk; simp; omega]
  rfl
theorem transferCount_one {xs : List Journey} {w : Int} (hv : validJourneys xs = true) (h0 : 0 ≤ w) (h1 : w ≤ 120) : transferCount (xs.take 1) w = 0 := by
  rw [transferCount_of (valid_take hv 1) h0 h1]
  cases xs with
  | nil => rfl
  | cons j r => simp [transferSum, belongsAt]
theorem halfCount_ok {xs : List Journey} (h : 0 ≤ halfCount xs) : validJourneys xs = true ∧ halfCount xs = halfSum xs := by
  unfold halfCount at h ⊢
  by_cases hv : validJourneys xs = true
  · rw [if_pos hv]; exact ⟨hv, rfl⟩
  · rw [if_neg hv] at h; omega
theorem rideMinutes_ok {xs : List Journey} (h : 0 ≤ rideMinutes xs) : validJourneys xs = true ∧ rideMinutes xs = rideSum xs := by
  unfold rideMinutes at h ⊢
  by_cases hv : validJourneys xs = true
  · rw [if_pos hv]; exact ⟨hv, rfl⟩
  · rw [if_neg hv] at h; omega
theorem halfCount_of {xs : List Journey} (hv : validJourneys xs = true) : halfCount xs = halfSum xs := by unfold halfCount; rw [if_pos hv]
theorem rideMinutes_of {xs : List Journey} (hv : validJourneys xs = true) : rideMinutes xs = rideSum xs := by unfold rideMinutes; rw [if_pos hv]
end Go.Proofs.Ytnahdclmfegmeaa.Fares
