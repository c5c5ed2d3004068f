/-
  Chapter 6: what is valid: the program's checks and their models'.
-/
import Derived.Test.YtnahdclmfegmeaaChargeMath
import Derived.Test.YtnahdclmfegmeaaStCharge
import Derived.Test.YtnahdclmfegmeaaBasic
import Derived.Test.YtnahdclmfegmeaaReg
namespace Go.Proofs.Ytnahdclmfegmeaa
open Go.RowKit
set_option linter.unusedVariables false

set_option maxHeartbeats 400000 in
theorem implvalidCaps_any (a b : Int) (w : World) :
    Calls Try.prog 109 #[.int .i64 a, .int .i64 b] w fun e w' => e = .returned (.bool (Fares.capOk a && Fares.capOk b)) ∧ w = w' := by
  go_enter Try.func109, Try.ntmps109
  go_wp2
  all_goals (go_ret; exact ⟨ret_bool (by rw [Bool.eq_iff_iff]; simp only [Fares.capOk, decide_eq_true_eq, decide_eq_false_iff_not, Bool.and_eq_true, Bool.or_eq_true, Bool.false_eq_true, Bool.true_eq_false, Bool.not_eq_true', true_iff, iff_true, false_iff, iff_false, Bool.not_eq_true, Bool.not_eq_false, Bool.and_eq_false_imp] at *; omega), rfl⟩)
set_option maxHeartbeats 400000 in
theorem implChargevalid_any (c : Fares.Charge) (w : World) :
    Calls Try.prog 130 #[chargeV c] w fun e w' => e = .returned (.bool (Fares.chargeOk c)) ∧ Below w.heap.size w w' := by
  unfold chargeV
  go_enter Try.func130, Try.ntmps130
  go_wp2_with (first | (go_at_call 145; refine (dayValid_any _ _).mono ?_; rintro e w' ⟨rfl, rfl⟩))
  all_goals (go_ret; exact ⟨ret_bool (by rw [Bool.eq_iff_iff]; simp only [Fares.chargeOk, Fares.dayOk, decide_eq_true_eq, decide_eq_false_iff_not, Bool.and_eq_true, Bool.or_eq_true, Bool.false_eq_true, Bool.true_eq_false, Bool.not_eq_true', true_iff, iff_true, false_iff, iff_false, Bool.not_eq_true, Bool.not_eq_false, Bool.and_eq_false_imp] at *; omega), (by repeat (first | exact Below.refl _ _ | refine bA ?_ _ | refine bD ?_ _ | refine bD1 ?_ | refine bS ?_ (by simp) _))⟩)

end Go.Proofs.Ytnahdclmfegmeaa
