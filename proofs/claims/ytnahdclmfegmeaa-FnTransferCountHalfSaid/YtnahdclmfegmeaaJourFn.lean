/-
  Valid journeys, their minutes, the halves: the program's functions and their models.
-/
import Derived.Test.YtnahdclmfegmeaaJourMath
import Derived.Test.YtnahdclmfegmeaaStJourney
import Derived.Test.YtnahdclmfegmeaaBasic
import Derived.Test.YtnahdclmfegmeaaReg
namespace Go.Proofs.Ytnahdclmfegmeaa
open Go.RowKit
set_option linter.unusedVariables false

set_option maxRecDepth 100000 in
set_option maxHeartbeats 2000000 in
theorem specvalidJourney_any (j : Fares.Journey) (w : World) :
    Calls Try.prog 127 #[journeyV j] w fun e w' => e = .returned (.bool (Fares.validJourney j)) ∧ Below w.heap.size w w' := by
  unfold journeyV
  by_cases hx : 0 ≤ j.x ∧ j.x ≤ 40319
  · obtain ⟨x0, x1⟩ := hx
    have d0 : (decide (0 ≤ j.x) && decide (j.x ≤ 40319)) = true := by simp [x0, x1]
    go_enter Try.func127, Try.ntmps127
    go_wp2_with (first | (go_at_call 102; refine (inRange_any _ _ _ _).mono ?_; rintro e w' ⟨rfl, rfl⟩))
    all_goals (go_ret; exact ⟨ret_bool (by rw [Bool.eq_iff_iff]; unfold Fares.validJourney; simp_all; try omega), (by repeat (first | exact Below.refl _ _ | refine bA ?_ _ | refine bD ?_ _ | refine bD1 ?_ | refine bS ?_ (by simp) _))⟩)
  · have d0 : decide (0 ≤ j.x ∧ j.x ≤ 40319) = false := by simpa using hx
    have hf : Fares.validJourney j = false := by unfold Fares.validJourney; rw [decide_eq_false]; intro h; exact hx ⟨h.2.2.2.2.1, h.2.2.2.2.2.1⟩
    have Hf := Lib.hid hf; clear hf hx
    go_enter Try.func127, Try.ntmps127
    go_wp2_with (first | (go_at_call 102; refine (inRange_any _ _ _ _).mono ?_; rintro e w' ⟨rfl, rfl⟩))
    all_goals (go_ret; exact ⟨ret_bool (by rw [Hf.out]; try rfl), (by repeat (first | exact Below.refl _ _ | refine bA ?_ _ | refine bD ?_ _ | refine bD1 ?_ | refine bS ?_ (by simp) _))⟩)

set_option maxRecDepth 100000 in
set_option maxHeartbeats 2000000 in
theorem implJourneyvalid_any (j : Fares.Journey) (w : World) :
    Calls Try.prog 94 #[journeyV j] w fun e w' => e = .returned (.bool (Fares.validJourney j)) ∧ Below w.heap.size w w' := by
  unfold journeyV
  by_cases hx : Fares.minuteOk j.x = true
  · by_cases hy : Fares.minuteOk j.y = true
    · have hx2 : 0 ≤ j.x ∧ j.x ≤ 40319 := by simpa [Fares.minuteOk] using hx
      have hy2 : 0 ≤ j.y ∧ j.y ≤ 40319 := by simpa [Fares.minuteOk] using hy
      obtain ⟨x0, x1⟩ := hx2
      obtain ⟨y0, y1⟩ := hy2
      go_enter Try.func94, Try.ntmps94
      go_wp2_with (first | (go_at_call 86; refine (momentValid_any _ _).mono ?_; rintro e w' ⟨rfl, rfl⟩) | (go_at_call 87; refine (validStop_any _ _).mono ?_; rintro e w' ⟨rfl, rfl⟩))
      all_goals (go_ret; exact ⟨ret_bool (by rw [Bool.eq_iff_iff]; unfold Fares.validJourney; simp_all [Fares.stopOk]; try omega), (by repeat (first | exact Below.refl _ _ | refine bA ?_ _ | refine bD ?_ _ | refine bD1 ?_ | refine bS ?_ (by simp) _))⟩)
    · have hy' : Fares.minuteOk j.y = false := by simpa using hy
      clear hy
      have hf : Fares.validJourney j = false := by
        unfold Fares.validJourney; rw [decide_eq_false]; intro h
        unfold Fares.minuteOk at hy'
        rw [decide_eq_false_iff_not] at hy'
        omega
      have Hf := Lib.hid hf; clear hf
      go_enter Try.func94, Try.ntmps94
      go_wp2_with (first | (go_at_call 86; refine (momentValid_any _ _).mono ?_; rintro e w' ⟨rfl, rfl⟩) | (go_at_call 87; refine (validStop_any _ _).mono ?_; rintro e w' ⟨rfl, rfl⟩))
      all_goals (go_ret; exact ⟨ret_bool (by rw [Hf.out]), (by repeat (first | exact Below.refl _ _ | refine bA ?_ _ | refine bD ?_ _ | refine bD1 ?_ | refine bS ?_ (by simp) _))⟩)
  · have hx' : Fares.minuteOk j.x = false := by simpa using hx
    clear hx
    have hf : Fares.validJourney j = false := by
      unfold Fares.validJourney; rw [decide_eq_false]; intro h
      unfold Fares.minuteOk at hx'
      rw [decide_eq_false_iff_not] at hx'
      omega
    have Hf := Lib.hid hf; clear hf
    go_enter Try.func94, Try.ntmps94
    go_wp2_with (first | (go_at_call 86; refine (momentValid_any _ _).mono ?_; rintro e w' ⟨rfl, rfl⟩) | (go_at_call 87; refine (validStop_any _ _).mono ?_; rintro e w' ⟨rfl, rfl⟩))
    all_goals (go_ret; exact ⟨ret_bool (by rw [Hf.out]), (by repeat (first | exact Below.refl _ _ | refine bA ?_ _ | refine bD ?_ _ | refine bD1 ?_ | refine bS ?_ (by simp) _))⟩)
end Go.Proofs.Ytnahdclmfegmeaa
