/-
  Valid journeys, their minutes, the halves: the program's functions and their models.
-/
import Derived.Test.YtllhjgheffemnaaJourMath
import Derived.Test.YtllhjgheffemnaaStJourney
import Derived.Test.YtllhjgheffemnaaBasic
import Derived.Test.YtllhjgheffemnaaReg
set_option linter.unusedSimpArgs false
namespace Go.Proofs.Ytllhjgheffemnaa
open Go.RowKit
set_option linter.unusedVariables false

set_option maxRecDepth 100000 in
set_option maxHeartbeats 2000000 in
theorem implJourneyvalid_any (j : Fares.Journey) (w : World) :
    Calls Try.prog 33 #[journeyV j] w fun e w' => e = .returned (.bool (Fares.validJourney j)) ∧ Below w.heap.size w w' := by
  unfold journeyV
  by_cases hx : Fares.minuteOk j.x = true
  · by_cases hy : Fares.minuteOk j.y = true
    · have hx2 : 0 ≤ j.x ∧ j.x ≤ 40319 := by simpa [Fares.minuteOk] using hx
      have hy2 : 0 ≤ j.y ∧ j.y ≤ 40319 := by simpa [Fares.minuteOk] using hy
      obtain ⟨x0, x1⟩ := hx2
      obtain ⟨y0, y1⟩ := hy2
      go_enter Try.func33, Try.ntmps33
      go_wp2_with (first | (go_at_call 46; refine (momentValid_any _ _).mono ?_; rintro e w' ⟨rfl, rfl⟩) | (go_at_call 47; refine (validStop_any _ _).mono ?_; rintro e w' ⟨rfl, rfl⟩))
      all_goals (go_ret; exact ⟨ret_bool (by rw [Bool.eq_iff_iff]; unfold Fares.validJourney; simp_all [Fares.stopOk]; try omega), (by repeat (first | exact Below.refl _ _ | refine bA ?_ _ | refine bD ?_ _ | refine bD1 ?_ | refine bS ?_ (by simp) _))⟩)
    · have hy' : Fares.minuteOk j.y = false := by simpa using hy
      clear hy
      have hf : Fares.validJourney j = false := by
        unfold Fares.validJourney; rw [decide_eq_false]; intro h
        unfold Fares.minuteOk at hy'
        rw [decide_eq_false_iff_not] at hy'
        omega
      have Hf := Lib.hid hf; clear hf
      go_enter Try.func33, Try.ntmps33
      go_wp2_with (first | (go_at_call 46; refine (momentValid_any _ _).mono ?_; rintro e w' ⟨rfl, rfl⟩) | (go_at_call 47; refine (validStop_any _ _).mono ?_; rintro e w' ⟨rfl, rfl⟩))
      all_goals (go_ret; exact ⟨ret_bool (by rw [Hf.out]), (by repeat (first | exact Below.refl _ _ | refine bA ?_ _ | refine bD ?_ _ | refine bD1 ?_ | refine bS ?_ (by simp) _))⟩)
  · have hx' : Fares.minuteOk j.x = false := by simpa using hx
    clear hx
    have hf : Fares.validJourney j = false := by
      unfold Fares.validJourney; rw [decide_eq_false]; intro h
      unfold Fares.minuteOk at hx'
      rw [decide_eq_false_iff_not] at hx'
      omega
    have Hf := Lib.hid hf; clear hf
    go_enter Try.func33, Try.ntmps33
    go_wp2_with (first | (go_at_call 46; refine (momentValid_any _ _).mono ?_; rintro e w' ⟨rfl, rfl⟩) | (go_at_call 47; refine (validStop_any _ _).mono ?_; rintro e w' ⟨rfl, rfl⟩))
    all_goals (go_ret; exact ⟨ret_bool (by rw [Hf.out]), (by repeat (first | exact Below.refl _ _ | refine bA ?_ _ | refine bD ?_ _ | refine bD1 ?_ | refine bS ?_ (by simp) _))⟩)
end Go.Proofs.Ytllhjgheffemnaa
