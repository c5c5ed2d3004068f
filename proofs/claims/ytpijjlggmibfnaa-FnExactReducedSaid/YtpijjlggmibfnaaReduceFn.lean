/-
  Reduced: the price after a discount, rounded up to a step.
-/
import Derived.Test.YtpijjlggmibfnaaBasic
import Derived.WalkKit
import Derived.Deep.QuietTactic
import Derived.BigQuiet
import Derived.IntWalk
set_option linter.unusedSimpArgs false
namespace Go.Proofs.Ytpijjlggmibfnaa
open Go.RowKit
set_option linter.unusedVariables false

def Fares.ceilTo (p d s : Int) : Int := (p * (100 - d) + 100 * s - 1) / (100 * s) * s
def Fares.reduceOk (p d s : Int) : Prop := 0 ≤ p ∧ p ≤ 4000 ∧ 0 ≤ d ∧ d ≤ 100 ∧ 1 ≤ s ∧ s ≤ 50
instance (p d s : Int) : Decidable (Fares.reduceOk p d s) := by unfold Fares.reduceOk; exact inferInstance
def Fares.reduced (p d s : Int) : Int := if Fares.reduceOk p d s then Fares.ceilTo p d s else -1

theorem Fares.exact_in {p d : Int} (h0 : 0 ≤ p) (h1 : p ≤ 4000) (h2 : 0 ≤ d) (h3 : d ≤ 100) : 0 ≤ p * (100 - d) ∧ p * (100 - d) ≤ 400000 :=
  ⟨Int.mul_nonneg h0 (by omega), Int.le_trans (Int.mul_le_mul_of_nonneg_right h1 (by omega)) (by omega)⟩
theorem Fares.ceil_in {E s : Int} (h0 : 0 ≤ E) (h1 : E ≤ 400000) (h2 : 1 ≤ s) (h3 : s ≤ 50) :
    0 ≤ (E + 100 * s - 1) / (100 * s) ∧ (E + 100 * s - 1) / (100 * s) ≤ 405000 ∧ 0 ≤ (E + 100 * s - 1) / (100 * s) * s ∧ (E + 100 * s - 1) / (100 * s) * s ≤ 20250000 := by
  have a : 0 ≤ (E + 100 * s - 1) / (100 * s) := Int.ediv_nonneg (by omega) (by omega)
  have b : (E + 100 * s - 1) / (100 * s) ≤ 405000 := Int.le_trans (Int.ediv_le_self _ (by omega)) (by omega)
  refine ⟨a, b, Int.mul_nonneg a (by omega), ?_⟩
  exact Int.le_trans (Int.mul_le_mul b h3 (by omega) (by omega)) (by omega)
/-- the least multiple of s that is at least the hundredth -/
theorem Fares.ceil_spec {E s : Int} (h2 : 1 ≤ s) : E ≤ (E + 100 * s - 1) / (100 * s) * (100 * s) ∧ (E + 100 * s - 1) / (100 * s) * (100 * s) < E + 100 * s := by
  have h := Int.emod_add_mul_ediv (E + 100 * s - 1) (100 * s)
  have h3 := Int.emod_nonneg (E + 100 * s - 1) (show (100 * s : Int) ≠ 0 by omega)
  have h4 := Int.emod_lt_of_pos (E + 100 * s - 1) (show (0 : Int) < 100 * s by omega)
  rw [Int.mul_comm (100 * s)] at h
  constructor <;> omega

theorem Fares.reduced_in {p d s : Int} (ho : Fares.reduceOk p d s) : 0 ≤ Fares.reduced p d s ∧ Fares.reduced p d s ≤ 20250000 ∧ Fares.reduced p d s % s = 0 ∧ p * (100 - d) ≤ 100 * Fares.reduced p d s ∧ 100 * (Fares.reduced p d s - s) < p * (100 - d) := by
  unfold Fares.reduced
  rw [if_pos ho]
  unfold Fares.ceilTo
  obtain ⟨h0, h1, h2, h3, h4, h5⟩ := ho
  obtain ⟨e0, e1⟩ := Fares.exact_in h0 h1 h2 h3
  generalize p * (100 - d) = E at *
  obtain ⟨q0, q1, n0, n1⟩ := Fares.ceil_in e0 e1 h4 h5
  obtain ⟨c0, c1⟩ := Fares.ceil_spec (E := E) h4
  generalize (E + 100 * s - 1) / (100 * s) = q at *
  have e : q * (100 * s) = 100 * (q * s) := by rw [← Int.mul_assoc, Int.mul_comm q 100, Int.mul_assoc]
  rw [e] at c0 c1
  refine ⟨n0, n1, Int.mul_emod_left _ _, c0, by omega⟩
theorem Fares.reduced_more {p d s e : Int} (ho : Fares.reduceOk p d s) (h : d ≤ e) (h' : e ≤ 100) : Fares.reduced p e s ≤ Fares.reduced p d s := by
  obtain ⟨h0, h1, h2, h3, h4, h5⟩ := id ho
  have ho' : Fares.reduceOk p e s := ⟨h0, h1, by omega, h', h4, h5⟩
  obtain ⟨_, _, a2, a3, a4⟩ := Fares.reduced_in ho
  obtain ⟨_, _, b2, b3, b4⟩ := Fares.reduced_in ho'
  have hE : p * (100 - e) ≤ p * (100 - d) := Int.mul_le_mul_of_nonneg_left (by omega) h0
  have h6 := Int.emod_add_mul_ediv (Fares.reduced p d s) s
  have h7 := Int.emod_add_mul_ediv (Fares.reduced p e s) s
  generalize Fares.reduced p d s = R at *
  generalize Fares.reduced p e s = R' at *
  rw [a2, Int.zero_add] at h6
  rw [b2, Int.zero_add] at h7
  have hlt : s * (R' / s - 1) < s * (R / s) := by rw [Int.mul_sub, h6, h7]; omega
  have := Int.lt_of_mul_lt_mul_left hlt (by omega)
  rw [← h6, ← h7]
  exact Int.mul_le_mul_of_nonneg_left (by omega) (by omega)
theorem Fares.reduced_all {p d s : Int} (ho : Fares.reduceOk p d s) : Fares.reduced p 100 s = 0 := by
  obtain ⟨h0, h1, h2, h3, h4, h5⟩ := ho
  unfold Fares.reduced
  rw [if_pos ⟨h0, h1, by omega, by omega, h4, h5⟩]
  unfold Fares.ceilTo
  rw [show p * (100 - 100) + 100 * s - 1 = 100 * s - 1 by omega, Int.ediv_eq_zero_of_lt (by omega) (by omega), Int.zero_mul]
theorem Fares.reduced_none {p : Int} (h0 : 0 ≤ p) (h1 : p ≤ 4000) : Fares.reduced p 0 1 = p := by
  unfold Fares.reduced
  rw [if_pos ⟨h0, h1, by omega, by omega, by omega, by omega⟩]
  unfold Fares.ceilTo
  omega
theorem Fares.reduced_step {p d s : Int} (ho : Fares.reduceOk p d s) : 0 ≤ Fares.reduced p d 1 ∧ Fares.reduced p d 1 ≤ Fares.reduced p d s ∧ Fares.reduced p d s - Fares.reduced p d 1 < s := by
  obtain ⟨h0, h1, h2, h3, h4, h5⟩ := id ho
  have ho' : Fares.reduceOk p d 1 := ⟨h0, h1, h2, h3, by omega, by omega⟩
  obtain ⟨_, _, a2, a3, a4⟩ := Fares.reduced_in ho
  obtain ⟨b0, _, b2, b3, b4⟩ := Fares.reduced_in ho'
  refine ⟨b0, by omega, by omega⟩

set_option maxHeartbeats 2000000 in
theorem implReduced_any (p d s : Int) (w : World) :
    Calls Try.prog 22 #[.int .i64 p, .int .i64 d, .int .i64 s] w fun e w' => e = .returned (.int .i64 (Fares.reduced p d s)) ∧ w = w' := by
  unfold Fares.reduced
  by_cases h : Fares.reduceOk p d s
  · rw [if_pos h]
    unfold Fares.ceilTo
    obtain ⟨h0, h1, h2, h3, h4, h5⟩ := h
    obtain ⟨e0, e1⟩ := Fares.exact_in h0 h1 h2 h3
    generalize hE : p * (100 - d) = E at e0 e1
    obtain ⟨q0, q1, n0, n1⟩ := Fares.ceil_in e0 e1 h4 h5
    have hs : ¬ (100 * s = 0) := by omega
    rw [← hE] at *
    go_enter Try.func22, Try.ntmps22
    go_wp2
    all_goals (go_ret; exact ⟨ret_int (by first | rfl | omega), rfl⟩)
  · rw [if_neg h]
    unfold Fares.reduceOk at h
    go_enter Try.func22, Try.ntmps22
    go_wp2
    all_goals first | (go_ret; exact ⟨rfl, rfl⟩) | (exfalso; omega)

set_option maxHeartbeats 2000000 in
theorem specReduced_any (p d s : Int) (w : World) :
    Calls Try.prog 23 #[.int .i64 p, .int .i64 d, .int .i64 s] w fun e w' => e = .returned (.int .i64 (Fares.reduced p d s)) ∧ w = w' := by
  unfold Fares.reduced
  by_cases h : Fares.reduceOk p d s
  · rw [if_pos h]
    unfold Fares.ceilTo
    obtain ⟨h0, h1, h2, h3, h4, h5⟩ := h
    obtain ⟨e0, e1⟩ := Fares.exact_in h0 h1 h2 h3
    generalize hE : p * (100 - d) = E at e0 e1
    obtain ⟨q0, q1, n0, n1⟩ := Fares.ceil_in e0 e1 h4 h5
    have hs : ¬ (100 * s = 0) := by omega
    rw [← hE] at *
    go_enter Try.func23, Try.ntmps23
    go_wp2_with (first | (refine (inRange_yes _ _ _ _ (by omega) (by omega)).mono ?_; rintro e w' ⟨rfl, rfl⟩))
    all_goals (go_ret; exact ⟨ret_int (by first | rfl | omega), rfl⟩)
  · rw [if_neg h]
    unfold Fares.reduceOk at h
    by_cases g0 : 0 ≤ p ∧ p ≤ 4000
    · by_cases g1 : 0 ≤ d ∧ d ≤ 100
      · go_enter Try.func23, Try.ntmps23
        go_wp2_with (first | (refine (inRange_yes _ _ _ _ (by omega) (by omega)).mono ?_; rintro e w' ⟨rfl, rfl⟩) | (refine (inRange_no _ _ _ _ (by omega)).mono ?_; rintro e w' ⟨rfl, rfl⟩))
        go_ret
        exact ⟨rfl, rfl⟩
      · go_enter Try.func23, Try.ntmps23
        go_wp2_with (first | (refine (inRange_yes _ _ _ _ (by omega) (by omega)).mono ?_; rintro e w' ⟨rfl, rfl⟩) | (refine (inRange_no _ _ _ _ (by omega)).mono ?_; rintro e w' ⟨rfl, rfl⟩))
        go_ret
        exact ⟨rfl, rfl⟩
    · go_enter Try.func23, Try.ntmps23
      go_wp2_with (first | (refine (inRange_yes _ _ _ _ (by omega) (by omega)).mono ?_; rintro e w' ⟨rfl, rfl⟩) | (refine (inRange_no _ _ _ _ (by omega)).mono ?_; rintro e w' ⟨rfl, rfl⟩))
      go_ret
      exact ⟨rfl, rfl⟩
end Go.Proofs.Ytpijjlggmibfnaa
